/- Texts that the row stands on, part 2. -/
import Derived.Test.YtdlblhoaddfanaaDoorRSumsDq01
import Derived.Lib.SlBytesConst
import Derived.Deep.CutBlock
namespace Go.Proofs.YtdlblhoaddfanaaDoor
open Go.RowKit Go.YtdlblhoaddfanaaDoor
set_option linter.unusedVariables false
variable {Tg Tf : TypeId}
set_option maxRecDepth 100000 in
set_option maxHeartbeats 2000000 in
theorem pieces_some (b o c : Nat) (L : List (List Int)) (w : World) (hLc : L.length ≤ c) (hcm : c ≤ maxLen) (hbw : b < w.heap.size) (hcell : ∀ i, i < L.length → ∃ s, w.cell? ⟨b, o + i, none⟩ = some s ∧ RdB w s (nthL L i))
   (hn : L.length ≤ 20) (hlen : ∀ i, (nthL L i).length ≤ 10000) (hby : ∀ i, Bytes (nthL L i))
   (hg : w.heap[2]? = some (.cells (u32s constW) Tg (0, 0))) (hgf : w.heap[0]? = some (.cells firstW.cells Tf (0, 0))) :
    Calls Tryd.prog 17 #[.slice (some ⟨b, o, none⟩) L.length c] w
     fun e w' => e = .returned (.tuple #[.agg (u8s (endF (blocksF firstW (flatN L L.length)) (restF (flatN L L.length)) (flatN L L.length).length)), .int .i64 0]) ∧ Below w.heap.size w w' := by
  unfold maxLen at hcm
  have hcell' := Lib.hid hcell; have hlen' := Lib.hid hlen; have hby' := Lib.hid hby; have hg' := Lib.hid hg; have hgf' := Lib.hid hgf
  clear hcell hlen hby hg hgf
  have hlt : 2 < w.heap.size := (Array.getElem?_eq_some_iff.1 hg'.out).1
  have hltf : 0 < w.heap.size := (Array.getElem?_eq_some_iff.1 hgf'.out).1
  generalize hm : L.length = n at *
  have hm' := Lib.hid hm; clear hm
  go_enter Tryd.func17, Tryd.ntmps17
  go_wp2
  generalize hWx : w.alloc (Obj.cells _ 33) = Wx
  have hWb : Below w.heap.size w Wx := by rw [← hWx]; exact (Below.refl _ _).alloc (Nat.le_refl _) _
  have hWz : Wx.heap.size = w.heap.size + 1 := by rw [← hWx]; simp
  have hW0 : Wx.heap[w.heap.size]? = some (.cells (u8s (zerosB 32)) 33 (0, 0)) := by rw [← hWx]; exact heap_alloc_new w _
  have hWz' := Lib.hid hWz; have hW0' := Lib.hid hW0
  clear hWx hWz hW0
  go_loop [5, 15] (fun _ i => ∃ k : Nat, k ≤ n ∧ i = .int .i64 k) (fun _ i => n - (intOf i).toNat)
  case atStart => exact ⟨0, by omega, rfl⟩
  case round =>
    obtain ⟨k, hk, rfl⟩ := hrel
    by_cases hlt' : k < n
    · obtain ⟨s, hs, hrs⟩ := hcell'.out k hlt'
      obtain ⟨sa, sc, rfl⟩ := hrs.slice
      have hs1 := (hWb.cell (p := (⟨b, o + k, none⟩ : Addr)) hbw).trans hs
      have hle := hlen'.out k
      go_wp2
      go_round
      case rel => exact ⟨k + 1, by omega, by go_num⟩
      case measure => simp [intOf]; omega
    · have hkn : k = n := by omega
      subst hkn
      clear hcm
      go_upto_region 10 with (go_at_call 11; refine (start_any (Tf := Tf) _ ?_).mono ?_; (exact (hWb.block _ hltf).trans hgf'.out); rintro e w1 ⟨rfl, hb1⟩; have hb1' := Lib.hid hb1; clear hb1)
      have hz1 : w.heap.size < w1.heap.size := by have := hb1'.out.size; have := hWz'.out; omega
      have hB1 : Below (w.heap.size + 1) Wx w1 := hb1'.out.mono (by have := hWz'.out; omega)
      have hB1' := Lib.hid hB1; clear hB1
      go_wp2
      go_loopw [8, 27] (fun _ i wr => ∃ j : Nat, j ≤ k ∧ i = .int .i64 j ∧ Below (w.heap.size + 1) Wx wr ∧ w1.heap.size < wr.heap.size ∧ ∃ rv, wr.heap[w1.heap.size]? = some (.cells #[.int .u32 (blocksF firstW (flatN L j)).a, .int .u32 (blocksF firstW (flatN L j)).b, .int .u32 (blocksF firstW (flatN L j)).c, .int .u32 (blocksF firstW (flatN L j)).d, .int .u32 (blocksF firstW (flatN L j)).e, .int .u32 (blocksF firstW (flatN L j)).f, .int .u32 (blocksF firstW (flatN L j)).g, .int .u32 (blocksF firstW (flatN L j)).h, rv, .int .i64 ((flatN L j).length : Nat)] 26 (0, 0)) ∧ RdB wr rv (restF (flatN L j))) (fun _ i _ => k - (intOf i).toNat)
      case atStart => exact ⟨0, by omega, rfl, hB1'.out.alloc (by omega) _, by simp, .slice none 0 0, by rw [show blocksF firstW (flatN L 0) = firstW from blocksF_small _ _ (by simp [flatN]), show (flatN L 0).length = 0 from rfl]; exact heap_alloc_new w1 _, .inl ⟨none, 0, rfl, fun _ => rfl, by simp [flatN, restF]⟩⟩
      case round =>
        obtain ⟨j, hj, rfl, hbr, hzr, rv, hrow, hrd⟩ := hrel
        have hrow' := Lib.hid hrow; have hrd' := Lib.hid hrd; clear hrow hrd
        have hbw' : Below w.heap.size w wr := hWb.trans (hbr.mono (by omega))
        by_cases hlt' : j < k
        · obtain ⟨s, hs, hrs⟩ := hcell'.out j hlt'
          obtain ⟨sa, sc, rfl⟩ := hrs.slice
          have hs1 := (hbw'.cell (p := (⟨b, o + j, none⟩ : Addr)) hbw).trans hs
          have hrs' := Lib.hid (hrs.mono hbw')
          have hgr := Lib.hid ((hbw'.block _ hlt).trans hg'.out)
          have hfl := flatN_length L hlen'.out j
          have hll := hlen'.out j
          have hN : Hid ((flatN L j).length + (nthL L j).length ≤ 200000) := Lib.hid (by omega)
          have hrl : Hid ((restF (flatN L j)).length < 64) := Lib.hid (by rw [restF_length]; exact Nat.mod_lt _ (by decide))
          have hG : Hid (blocksF (blocksF firstW (flatN L j)) (restF (flatN L j) ++ nthL L j) = blocksF firstW (flatN L (j + 1))) := Lib.hid (blocksF_append _ _ _).symm
          clear hs hrs hfl hll
          go_wp2_with (first | (refine wpList_load_row rfl 26 _ rfl w1.heap.size rfl 26 _ _ _ hrow'.out Tryd.underlying26 rfl (by kernel_rfl) ?_) | (go_at_call 22; refine (put_any (Tg := Tg) (blocksF firstW (flatN L j)) (blocksF firstW (flatN L (j + 1))) rv (restF (flatN L j)) (flatN L j).length (.slice sa (nthL L j).length sc) (nthL L j) _ (blocksF_ok _ _ firstW_ok) hrd'.out hrs'.out (bytes_drop _ _ (flatN_bytes L hby'.out j)) (hby'.out j) hrl.out hN.out hG.out hgr.out).mono ?_; rintro e w2 ⟨r', rfl, ho2, hb2⟩; obtain ⟨pa, pc, rfl⟩ := ho2.rd.slice; have ho2' := Lib.hid ho2; have hb2' := Lib.hid hb2; have hrow2 := Lib.hid ((hb2.block _ hzr).trans hrow'.out); clear ho2 hb2) | (refine wpList_store_row rfl 26 _ _ rfl w1.heap.size _ rfl rfl 26 _ hrow2.out (by kernel_rfl) (by simp) (by simp [Value.oneCell']) ?_))
          go_roundw
          case rel =>
            have hB2 : Below (w.heap.size + 1) Wx w2 := hbr.trans (hb2'.out.mono (by omega))
            have hz2 := hb2'.out.size
            have hrest : restF (restF (flatN L j) ++ nthL L j) = restF (flatN L (j + 1)) := (restF_append _ _).symm
            have ho3 := ho2'.out
            rw [hrest] at ho3
            refine ⟨j + 1, by omega, by go_num, below_setRow' (g := w1.heap.size) hB2 (by omega) _, by rw [size_setRow]; omega, .slice pa (restF (restF (flatN L j) ++ nthL L j)).length pc, ?_, ?_⟩
            · have hl : (((flatN L (j + 1)).length : Nat) : Int) = (flatN L j).length + (nthL L j).length := by rw [flatN, List.length_append]; exact Int.natCast_add _ _
              rw [hl]
              exact setRow_heap _ _ _ _ _ _ hrow2.out
            · rw [hrest]
              exact (ownB_setRow (g := w1.heap.size) ho3 (Nat.le_refl _) hzr _).rd
          case measure => simp [intOf]; omega
        · have hjk : j = k := by omega
          subst hjk
          have hfl := flatN_length L hlen'.out j
          have hN : Hid ((flatN L j).length ≤ 200000) := Lib.hid (by omega)
          have hrl : Hid ((restF (flatN L j)).length < 64) := Lib.hid (by rw [restF_length]; exact Nat.mod_lt _ (by decide))
          have hFb := Lib.hid (flatN_bytes L hby'.out j)
          have hgr := Lib.hid ((hbw'.block _ hlt).trans hg'.out)
          have hres := Lib.hid ((hbr.block w.heap.size (by omega)).trans hW0'.out)
          clear hfl
          have hlen32 : (endF (blocksF firstW (flatN L j)) (restF (flatN L j)) (flatN L j).length).length = 32 := writtenN_length _ 8
          have hi : (Tryd.prog.info? 33).map (·.size) = some (u8s (endF (blocksF firstW (flatN L j)) (restF (flatN L j)) (flatN L j).length)).size := by rw [u8s_size, hlen32]; kernel_rfl
          have hs2 : (u8s (zerosB 32)).size = (u8s (endF (blocksF firstW (flatN L j)) (restF (flatN L j)) (flatN L j).length)).size := by rw [u8s_size, u8s_size, hlen32, zerosB_length]
          have hi' := Lib.hid hi; have hs2' := Lib.hid hs2
          clear hi hs2 hlen32
          go_wp2_with (first | (refine wpList_load_row rfl 26 _ rfl w1.heap.size rfl 26 _ _ _ hrow'.out Tryd.underlying26 rfl (by kernel_rfl) ?_) | (go_at_call 25; refine (finish_any (Tg := Tg) (blocksF firstW (flatN L j)) _ rv (restF (flatN L j)) (flatN L j).length _ (blocksF_ok _ _ firstW_ok) hrd'.out (bytes_drop _ _ hFb.out) hrl.out hN.out rfl hgr.out).mono ?_; rintro e w2 ⟨rfl, hb2⟩; have hrow2' := Lib.hid ((hb2.block _ (by omega)).trans hres.out); have hB2' := Lib.hid (hbw'.trans (hb2.mono (by omega))); clear hb2) | (refine wpList_store_row rfl 33 _ _ rfl w.heap.size (u8s (endF (blocksF firstW (flatN L j)) (restF (flatN L j)) (flatN L j).length)) rfl rfl 33 _ hrow2'.out hi'.out hs2'.out (u8s_one _) ?_))
          try simp only [Exit.inBlock, Exit.then]
          exact bodyPost_ret (results_row_tmp rfl _ _ w.heap.size 33 _ _ _ rfl (setRow_heap _ _ _ _ _ _ hrow2'.out) Tryd.underlying33 rfl hi'.out) rfl ⟨rfl, below_setRow' (g := w.heap.size) hB2'.out (Nat.le_refl _) _⟩
end Go.Proofs.YtdlblhoaddfanaaDoor
namespace Go.Proofs.YtdlblhoaddfanaaDoor
open Go.RowKit Go.YtdlblhoaddfanaaDoor
set_option linter.unusedVariables false
variable {Tg Tf : TypeId}
theorem pieces_any (L : List (List Int)) (v : Value) (b o c : Nat) (hv : v = .slice (some ⟨b, o, none⟩) L.length c) (w : World) (hLc : L.length ≤ c) (hcm : c ≤ maxLen) (hbw : b < w.heap.size) (hcell : ∀ i, i < L.length → ∃ s, w.cell? ⟨b, o + i, none⟩ = some s ∧ RdB w s (nthL L i))
   (hn : L.length ≤ 20) (hlen : ∀ i, (nthL L i).length ≤ 10000) (hby : ∀ i, Bytes (nthL L i))
   (hg : w.heap[2]? = some (.cells (u32s constW) Tg (0, 0))) (hgf : w.heap[0]? = some (.cells firstW.cells Tf (0, 0))) :
    Calls Tryd.prog 17 #[v] w
     fun e w' => e = .returned (.tuple #[.agg (u8s (shaF L.flatten)), .int .i64 0]) ∧ Below w.heap.size w w' := by
  subst hv
  have h := pieces_some (Tg := Tg) (Tf := Tf) b o c L w hLc hcm hbw hcell hn hlen hby hg hgf
  rw [flatN_all] at h
  exact h
set_option maxRecDepth 100000 in
set_option maxHeartbeats 400000 in
theorem sum_any (D : List Int) (bv : Value) (l : List Int) (w : World) (hl : RdB w bv l) (hlb : Bytes l) (hlen : l.length ≤ 10000) (hD : shaF l = D)
   (hg : w.heap[2]? = some (.cells (u32s constW) Tg (0, 0))) (hgf : w.heap[0]? = some (.cells firstW.cells Tf (0, 0))) :
    Calls Tryd.prog 15 #[bv] w
     fun e w' => e = .returned (.tuple #[.agg (u8s D), .int .i64 0]) ∧ Below w.heap.size w w' := by
  obtain ⟨a, c, rfl⟩ := hl.slice
  have hlt : 2 < w.heap.size := (Array.getElem?_eq_some_iff.1 hg).1
  have hltf : 0 < w.heap.size := (Array.getElem?_eq_some_iff.1 hgf).1
  have hp : ∀ o1, Calls Tryd.prog 17 #[.slice (some ⟨w.heap.size + 1, 0, none⟩) 1 1] ((w.alloc o1).alloc (.cells #[.slice a l.length c] 24))
     fun e w' => e = .returned (.tuple #[.agg (u8s D), .int .i64 0]) ∧ Below ((w.alloc o1).alloc (.cells #[.slice a l.length c] 24)).heap.size ((w.alloc o1).alloc (.cells #[.slice a l.length c] 24)) w' := by
    intro o1
    have hB : Below w.heap.size w ((w.alloc o1).alloc (.cells #[.slice a l.length c] 24)) := ((Below.refl _ _).alloc (Nat.le_refl _) _).alloc (by simp) _
    have h := pieces_any (Tg := Tg) (Tf := Tf) [l] (.slice (some ⟨w.heap.size + 1, 0, none⟩) 1 1) (w.heap.size + 1) 0 1 rfl ((w.alloc o1).alloc (.cells #[.slice a l.length c] 24)) (Nat.le_refl _) (by decide) (by simp) (fun i hi => by
      have h0 : i = 0 := by simp at hi; exact hi
      subst h0
      exact ⟨_, cell_of_row _ _ _ _ _ _ (hn2 w _ _), hl.mono hB⟩) (by simp) (fun i => by
      cases i with
      | zero => exact hlen
      | succ i => simp [nthL]) (fun i => by
      cases i with
      | zero => exact hlb
      | succ i => intro j; simp [nthL, ith]) ((hB.block _ hlt).trans hg) ((hB.block _ hltf).trans hgf)
    rw [show ([l] : List (List Int)).flatten = l by simp, hD] at h
    exact h
  have hDl : D.length = 32 := by rw [← hD]; exact shaF_length l
  have hi : (Tryd.prog.info? 33).map (·.size) = some (u8s D).size := by rw [u8s_size, hDl]; kernel_rfl
  have hs2 : (u8s (zerosB 32)).size = (u8s D).size := by rw [u8s_size, u8s_size, hDl, zerosB_length]
  have hp' := Lib.hid hp; have hi' := Lib.hid hi; have hs2' := Lib.hid hs2
  clear hp hi hs2 hDl hD hl hlb hlen hg hgf
  go_enter Tryd.func15, Tryd.ntmps15
  go_wp2_with (first | (go_at_call 17; refine (hp'.out _).mono ?_; rintro e w1 ⟨rfl, hb1⟩; have hrow := Lib.hid (show w1.heap[w.heap.size]? = some (.cells (u8s (zerosB 32)) 33 (0, 0)) from (hb1.block _ (by simp; omega)).trans ((hp1 _ _ _ (by simp)).trans (heap_alloc_new w _))); have hB1 := Lib.hid ((((Below.refl _ _).alloc (Nat.le_refl _) _).alloc (by simp) _).trans (hb1.mono (by simp; omega))); clear hb1) | (refine wpList_store_row rfl 33 _ _ rfl w.heap.size (u8s D) rfl rfl 33 _ hrow.out hi'.out hs2'.out (u8s_one _) ?_))
  try simp only [Exit.inBlock, Exit.then]
  exact bodyPost_ret (results_row_tmp rfl _ _ w.heap.size 33 _ _ _ rfl (setRow_heap _ _ _ _ _ _ hrow.out) Tryd.underlying33 rfl hi'.out) rfl ⟨rfl, below_setRow' (g := w.heap.size) hB1.out (Nat.le_refl _) _⟩
end Go.Proofs.YtdlblhoaddfanaaDoor
namespace Go.Proofs.YtdlblhoaddfanaaDoor
open Go.RowKit Go.YtdlblhoaddfanaaDoor
set_option linter.unusedVariables false
variable {Tg Tf : TypeId}
theorem storeNew {P : Program} {ops : Array Oper} {rest : List Oper} {o : Oper} {a : Act} {Q : Exit → Act → World → Prop} {old : Array Value} (w1 : World) (hgd : o.guard = none) (ty : TypeId) (x y : Operand) (ho : o.op = .store ty x y)
    (cells : Array Value) (t : TypeId) (hx : a.eval x = .pointer (some ⟨w1.heap.size, 0, none⟩)) (hy : a.eval y = .agg cells)
    (hi : (P.info? ty).map (·.size) = some cells.size) (hold : old.size = cells.size) (h1 : cells.all (·.oneCell') = true)
    (h : ∀ wx, wx.heap[w1.heap.size]? = some (.cells cells t (0, 0)) → Below w1.heap.size w1 wx → wpList P ops Q rest (a.put o.dst undef) wx) :
    wpList P ops Q (o :: rest) a (w1.alloc (.cells old t)) := by
  have hg := heap_alloc_new w1 (.cells old t)
  refine wpList_store_row hgd ty x y ho w1.heap.size cells hx hy t old hg hi hold h1 (h _ (setRow_heap _ _ _ _ _ _ hg) ?_)
  exact below_setRow' ((Below.refl _ _).alloc (Nat.le_refl _) _) (Nat.le_refl _) _
end Go.Proofs.YtdlblhoaddfanaaDoor
namespace Go.Proofs.YtdlblhoaddfanaaDoor
open Go.RowKit Go.YtdlblhoaddfanaaDoor
set_option linter.unusedVariables false
variable {Tg Tf : TypeId}
def StopP (p : Prop) : Prop := p
theorem Stop.go'' (p : Prop) (h : StopP p) : p := h
theorem StopP.go {p : Prop} (h : p) : StopP p := h
end Go.Proofs.YtdlblhoaddfanaaDoor
namespace Go.Proofs.YtdlblhoaddfanaaDoor
open Go.RowKit Go.YtdlblhoaddfanaaDoor
set_option linter.unusedVariables false
variable {Tg Tf : TypeId}
set_option maxRecDepth 100000 in
set_option maxHeartbeats 2000000 in
theorem pieces_gen (A : Option Addr) (c : Nat) (L : List (List Int)) (w : World) (hLc : L.length ≤ c) (hcm : c ≤ maxLen) (hcell : ∀ i, i < L.length → ∃ b o, A = some ⟨b, o, none⟩ ∧ b < w.heap.size ∧ ∃ s, w.cell? ⟨b, o + i, none⟩ = some s ∧ RdB w s (nthL L i))
   (hn : L.length ≤ 20) (hlen : ∀ i, (nthL L i).length ≤ 10000) (hby : ∀ i, Bytes (nthL L i))
   (hg : w.heap[2]? = some (.cells (u32s constW) Tg (0, 0))) (hgf : w.heap[0]? = some (.cells firstW.cells Tf (0, 0))) :
    Calls Tryd.prog 17 #[.slice A L.length c] w
     fun e w' => e = .returned (.tuple #[.agg (u8s (endF (blocksF firstW (flatN L L.length)) (restF (flatN L L.length)) (flatN L L.length).length)), .int .i64 0]) ∧ Below w.heap.size w w' := by
  unfold maxLen at hcm
  have hcell' := Lib.hid hcell; have hlen' := Lib.hid hlen; have hby' := Lib.hid hby; have hg' := Lib.hid hg; have hgf' := Lib.hid hgf
  clear hcell hlen hby hg hgf
  have hlt : 2 < w.heap.size := (Array.getElem?_eq_some_iff.1 hg'.out).1
  have hltf : 0 < w.heap.size := (Array.getElem?_eq_some_iff.1 hgf'.out).1
  generalize hm : L.length = n at *
  have hm' := Lib.hid hm; clear hm
  go_enter Tryd.func17, Tryd.ntmps17
  go_wp2
  generalize hWx : w.alloc (Obj.cells _ 33) = Wx
  have hWb : Below w.heap.size w Wx := by rw [← hWx]; exact (Below.refl _ _).alloc (Nat.le_refl _) _
  have hWz : Wx.heap.size = w.heap.size + 1 := by rw [← hWx]; simp
  have hW0 : Wx.heap[w.heap.size]? = some (.cells (u8s (zerosB 32)) 33 (0, 0)) := by rw [← hWx]; exact heap_alloc_new w _
  have hWz' := Lib.hid hWz; have hW0' := Lib.hid hW0
  clear hWx hWz hW0
  go_loop [5, 15] (fun _ i => ∃ k : Nat, k ≤ n ∧ i = .int .i64 k) (fun _ i => n - (intOf i).toNat)
  case atStart => exact ⟨0, by omega, rfl⟩
  case round =>
    obtain ⟨k, hk, rfl⟩ := hrel
    by_cases hlt' : k < n
    · obtain ⟨b, o, rfl, hbw, s, hs, hrs⟩ := hcell'.out k hlt'
      obtain ⟨sa, sc, rfl⟩ := hrs.slice
      have hs1 := (hWb.cell (p := (⟨b, o + k, none⟩ : Addr)) hbw).trans hs
      have hle := hlen'.out k
      go_wp2
      go_round
      case rel => exact ⟨k + 1, by omega, by go_num⟩
      case measure => simp [intOf]; omega
    · have hkn : k = n := by omega
      subst hkn
      clear hcm
      go_upto_region 10 with (go_at_call 11; refine (start_any (Tf := Tf) _ ?_).mono ?_; (exact (hWb.block _ hltf).trans hgf'.out); rintro e w1 ⟨rfl, hb1⟩; have hb1' := Lib.hid hb1; clear hb1)
      have hz1 : w.heap.size < w1.heap.size := by have := hb1'.out.size; have := hWz'.out; omega
      have hB1 : Below (w.heap.size + 1) Wx w1 := hb1'.out.mono (by have := hWz'.out; omega)
      have hB1' := Lib.hid hB1; clear hB1
      go_wp2
      go_loopw [8, 27] (fun _ i wr => ∃ j : Nat, j ≤ k ∧ i = .int .i64 j ∧ Below (w.heap.size + 1) Wx wr ∧ w1.heap.size < wr.heap.size ∧ ∃ rv, wr.heap[w1.heap.size]? = some (.cells #[.int .u32 (blocksF firstW (flatN L j)).a, .int .u32 (blocksF firstW (flatN L j)).b, .int .u32 (blocksF firstW (flatN L j)).c, .int .u32 (blocksF firstW (flatN L j)).d, .int .u32 (blocksF firstW (flatN L j)).e, .int .u32 (blocksF firstW (flatN L j)).f, .int .u32 (blocksF firstW (flatN L j)).g, .int .u32 (blocksF firstW (flatN L j)).h, rv, .int .i64 ((flatN L j).length : Nat)] 26 (0, 0)) ∧ RdB wr rv (restF (flatN L j))) (fun _ i _ => k - (intOf i).toNat)
      case atStart => exact ⟨0, by omega, rfl, hB1'.out.alloc (by omega) _, by simp, .slice none 0 0, by rw [show blocksF firstW (flatN L 0) = firstW from blocksF_small _ _ (by simp [flatN]), show (flatN L 0).length = 0 from rfl]; exact heap_alloc_new w1 _, .inl ⟨none, 0, rfl, fun _ => rfl, by simp [flatN, restF]⟩⟩
      case round =>
        obtain ⟨j, hj, rfl, hbr, hzr, rv, hrow, hrd⟩ := hrel
        have hrow' := Lib.hid hrow; have hrd' := Lib.hid hrd; clear hrow hrd
        have hbw' : Below w.heap.size w wr := hWb.trans (hbr.mono (by omega))
        by_cases hlt' : j < k
        · obtain ⟨b, o, rfl, hbw, s, hs, hrs⟩ := hcell'.out j hlt'
          obtain ⟨sa, sc, rfl⟩ := hrs.slice
          have hs1 := (hbw'.cell (p := (⟨b, o + j, none⟩ : Addr)) hbw).trans hs
          have hrs' := Lib.hid (hrs.mono hbw')
          have hgr := Lib.hid ((hbw'.block _ hlt).trans hg'.out)
          have hfl := flatN_length L hlen'.out j
          have hll := hlen'.out j
          have hN : Hid ((flatN L j).length + (nthL L j).length ≤ 200000) := Lib.hid (by omega)
          have hrl : Hid ((restF (flatN L j)).length < 64) := Lib.hid (by rw [restF_length]; exact Nat.mod_lt _ (by decide))
          have hG : Hid (blocksF (blocksF firstW (flatN L j)) (restF (flatN L j) ++ nthL L j) = blocksF firstW (flatN L (j + 1))) := Lib.hid (blocksF_append _ _ _).symm
          clear hs hrs hfl hll
          go_wp2_with (first | (refine wpList_load_row rfl 26 _ rfl w1.heap.size rfl 26 _ _ _ hrow'.out Tryd.underlying26 rfl (by kernel_rfl) ?_) | (go_at_call 22; refine (put_any (Tg := Tg) (blocksF firstW (flatN L j)) (blocksF firstW (flatN L (j + 1))) rv (restF (flatN L j)) (flatN L j).length (.slice sa (nthL L j).length sc) (nthL L j) _ (blocksF_ok _ _ firstW_ok) hrd'.out hrs'.out (bytes_drop _ _ (flatN_bytes L hby'.out j)) (hby'.out j) hrl.out hN.out hG.out hgr.out).mono ?_; rintro e w2 ⟨r', rfl, ho2, hb2⟩; obtain ⟨pa, pc, rfl⟩ := ho2.rd.slice; have ho2' := Lib.hid ho2; have hb2' := Lib.hid hb2; have hrow2 := Lib.hid ((hb2.block _ hzr).trans hrow'.out); clear ho2 hb2) | (refine wpList_store_row rfl 26 _ _ rfl w1.heap.size _ rfl rfl 26 _ hrow2.out (by kernel_rfl) (by simp) (by simp [Value.oneCell']) ?_))
          go_roundw
          case rel =>
            have hB2 : Below (w.heap.size + 1) Wx w2 := hbr.trans (hb2'.out.mono (by omega))
            have hz2 := hb2'.out.size
            have hrest : restF (restF (flatN L j) ++ nthL L j) = restF (flatN L (j + 1)) := (restF_append _ _).symm
            have ho3 := ho2'.out
            rw [hrest] at ho3
            refine ⟨j + 1, by omega, by go_num, below_setRow' (g := w1.heap.size) hB2 (by omega) _, by rw [size_setRow]; omega, .slice pa (restF (restF (flatN L j) ++ nthL L j)).length pc, ?_, ?_⟩
            · have hl : (((flatN L (j + 1)).length : Nat) : Int) = (flatN L j).length + (nthL L j).length := by rw [flatN, List.length_append]; exact Int.natCast_add _ _
              rw [hl]
              exact setRow_heap _ _ _ _ _ _ hrow2.out
            · rw [hrest]
              exact (ownB_setRow (g := w1.heap.size) ho3 (Nat.le_refl _) hzr _).rd
          case measure => simp [intOf]; omega
        · have hjk : j = k := by omega
          subst hjk
          have hfl := flatN_length L hlen'.out j
          have hN : Hid ((flatN L j).length ≤ 200000) := Lib.hid (by omega)
          have hrl : Hid ((restF (flatN L j)).length < 64) := Lib.hid (by rw [restF_length]; exact Nat.mod_lt _ (by decide))
          have hFb := Lib.hid (flatN_bytes L hby'.out j)
          have hgr := Lib.hid ((hbw'.block _ hlt).trans hg'.out)
          have hres := Lib.hid ((hbr.block w.heap.size (by omega)).trans hW0'.out)
          clear hfl
          have hlen32 : (endF (blocksF firstW (flatN L j)) (restF (flatN L j)) (flatN L j).length).length = 32 := writtenN_length _ 8
          have hi : (Tryd.prog.info? 33).map (·.size) = some (u8s (endF (blocksF firstW (flatN L j)) (restF (flatN L j)) (flatN L j).length)).size := by rw [u8s_size, hlen32]; kernel_rfl
          have hs2 : (u8s (zerosB 32)).size = (u8s (endF (blocksF firstW (flatN L j)) (restF (flatN L j)) (flatN L j).length)).size := by rw [u8s_size, u8s_size, hlen32, zerosB_length]
          have hi' := Lib.hid hi; have hs2' := Lib.hid hs2
          clear hi hs2 hlen32
          go_wp2_with (first | (refine wpList_load_row rfl 26 _ rfl w1.heap.size rfl 26 _ _ _ hrow'.out Tryd.underlying26 rfl (by kernel_rfl) ?_) | (go_at_call 25; refine (finish_any (Tg := Tg) (blocksF firstW (flatN L j)) _ rv (restF (flatN L j)) (flatN L j).length _ (blocksF_ok _ _ firstW_ok) hrd'.out (bytes_drop _ _ hFb.out) hrl.out hN.out rfl hgr.out).mono ?_; rintro e w2 ⟨rfl, hb2⟩; have hrow2' := Lib.hid ((hb2.block _ (by omega)).trans hres.out); have hB2' := Lib.hid (hbw'.trans (hb2.mono (by omega))); clear hb2) | (refine wpList_store_row rfl 33 _ _ rfl w.heap.size (u8s (endF (blocksF firstW (flatN L j)) (restF (flatN L j)) (flatN L j).length)) rfl rfl 33 _ hrow2'.out hi'.out hs2'.out (u8s_one _) ?_))
          try simp only [Exit.inBlock, Exit.then]
          exact bodyPost_ret (results_row_tmp rfl _ _ w.heap.size 33 _ _ _ rfl (setRow_heap _ _ _ _ _ _ hrow2'.out) Tryd.underlying33 rfl hi'.out) rfl ⟨rfl, below_setRow' (g := w.heap.size) hB2'.out (Nat.le_refl _) _⟩
end Go.Proofs.YtdlblhoaddfanaaDoor
namespace Go.Proofs.YtdlblhoaddfanaaDoor
open Go.RowKit Go.YtdlblhoaddfanaaDoor
set_option linter.unusedVariables false
variable {Tg Tf : TypeId}
set_option maxRecDepth 100000 in
set_option maxHeartbeats 2000000 in
theorem pieces_many (A : Option Addr) (n c : Nat) (w : World) (hn : 20 < n) :
    Calls Tryd.prog 17 #[.slice A n c] w
     fun e w' => e = .returned (.tuple #[.agg (u8s (zerosB 32)), .int .i64 4]) ∧ Below w.heap.size w w' := by
  go_enter Tryd.func17, Tryd.ntmps17
  go_wp2_with (refine wpList_store_row rfl 33 _ _ rfl w.heap.size (u8s (zerosB 32)) rfl rfl 33 _ (heap_alloc_new w _) info_id rfl (u8s_one _) ?_)
  try simp only [Exit.inBlock, Exit.then]
  exact bodyPost_ret (results_row_tmp rfl _ _ w.heap.size 33 _ _ _ rfl (setRow_heap _ _ _ _ _ _ (heap_alloc_new w _)) Tryd.underlying33 rfl info_id) rfl ⟨rfl, below_setRow' (g := w.heap.size) ((Below.refl _ _).alloc (Nat.le_refl _) _) (Nat.le_refl _) _⟩
set_option maxRecDepth 100000 in
set_option maxHeartbeats 2000000 in
theorem pieces_long (A : Option Addr) (n c i0 : Nat) (len : Nat → Nat) (w : World) (hi0 : i0 < n) (hn : n ≤ 20) (hsmall : ∀ i, i < i0 → len i ≤ 10000) (hbig : 10000 < len i0) (hb48 : len i0 ≤ 1048576)
   (hcell : ∀ i, i ≤ i0 → ∃ b o, A = some ⟨b, o, none⟩ ∧ b < w.heap.size ∧ ∃ sa sc, w.cell? ⟨b, o + i, none⟩ = some (.slice sa (len i) sc)) :
    Calls Tryd.prog 17 #[.slice A n c] w
     fun e w' => e = .returned (.tuple #[.agg (u8s (zerosB 32)), .int .i64 4]) ∧ Below w.heap.size w w' := by
  have hcell' := Lib.hid hcell; have hsm := Lib.hid hsmall
  clear hcell hsmall
  go_enter Tryd.func17, Tryd.ntmps17
  go_wp2
  generalize hWx : w.alloc (Obj.cells _ 33) = Wx
  have hWb : Below w.heap.size w Wx := by rw [← hWx]; exact (Below.refl _ _).alloc (Nat.le_refl _) _
  have hWz : Wx.heap.size = w.heap.size + 1 := by rw [← hWx]; simp
  have hW0 : Wx.heap[w.heap.size]? = some (.cells (u8s (zerosB 32)) 33 (0, 0)) := by rw [← hWx]; exact heap_alloc_new w _
  have hWz' := Lib.hid hWz; have hW0' := Lib.hid hW0; have hWb' := Lib.hid hWb
  clear hWx hWz hW0 hWb
  go_loop [5, 15] (fun _ i => ∃ k : Nat, k ≤ i0 ∧ i = .int .i64 k) (fun _ i => i0 + 1 - (intOf i).toNat)
  case atStart => exact ⟨0, by omega, rfl⟩
  case round =>
    obtain ⟨k, hk, rfl⟩ := hrel
    obtain ⟨b, o, rfl, hbw, sa, sc, hs⟩ := hcell'.out k hk
    have hs1 := (hWb'.out.cell (p := (⟨b, o + k, none⟩ : Addr)) hbw).trans hs
    have hkn : k < n := by omega
    clear hs
    by_cases hlt' : k < i0
    · have hle := hsm.out k hlt'
      generalize len k = lk at *
      clear hbig hb48
      go_wp2
      go_round
      case rel => exact ⟨k + 1, by omega, by go_num⟩
      case measure => simp [intOf]; omega
    · obtain rfl : k = i0 := by omega
      generalize len k = lk at *
      go_wp2_with (refine wpList_store_row rfl 33 _ _ rfl w.heap.size (u8s (zerosB 32)) rfl rfl 33 _ hW0'.out info_id rfl (u8s_one _) ?_)
      try simp only [Exit.inBlock, Exit.then]
      exact bodyPost_ret (results_row_tmp rfl _ _ w.heap.size 33 _ _ _ rfl (setRow_heap _ _ _ _ _ _ hW0'.out) Tryd.underlying33 rfl info_id) rfl ⟨rfl, below_setRow' (g := w.heap.size) hWb'.out (Nat.le_refl _) _⟩
set_option maxRecDepth 100000 in
set_option maxHeartbeats 2000000 in
theorem sum_many (a : Option Addr) (n c : Nat) (w : World) (h1 : 10000 < n) (h2 : n ≤ 1048576) :
    Calls Tryd.prog 15 #[.slice a n c] w
     fun e w' => e = .returned (.tuple #[.agg (u8s (zerosB 32)), .int .i64 4]) ∧ Below w.heap.size w w' := by
  have hp : ∀ o1, Calls Tryd.prog 17 #[.slice (some ⟨w.heap.size + 1, 0, none⟩) 1 1] ((w.alloc o1).alloc (.cells #[.slice a n c] 24))
     fun e w' => e = .returned (.tuple #[.agg (u8s (zerosB 32)), .int .i64 4]) ∧ Below ((w.alloc o1).alloc (.cells #[.slice a n c] 24)).heap.size ((w.alloc o1).alloc (.cells #[.slice a n c] 24)) w' := by
    intro o1
    exact pieces_long (some ⟨w.heap.size + 1, 0, none⟩) 1 1 0 (fun _ => n) ((w.alloc o1).alloc (.cells #[.slice a n c] 24)) (by decide) (by decide) (fun i hi => absurd hi (Nat.not_lt_zero _)) h1 h2 (fun i hi => by
      have h0 : i = 0 := by omega
      subst h0
      exact ⟨_, _, rfl, by simp, _, _, cell_of_row _ _ _ _ _ _ (hn2 w _ _)⟩)
  have hp' := Lib.hid hp
  clear hp
  go_enter Tryd.func15, Tryd.ntmps15
  go_wp2_with (first | (go_at_call 17; refine (hp'.out _).mono ?_; rintro e w1 ⟨rfl, hb1⟩; have hrow := Lib.hid (show w1.heap[w.heap.size]? = some (.cells (u8s (zerosB 32)) 33 (0, 0)) from (hb1.block _ (by simp; omega)).trans ((hp1 _ _ _ (by simp)).trans (heap_alloc_new w _))); have hB1 := Lib.hid ((((Below.refl _ _).alloc (Nat.le_refl _) _).alloc (by simp) _).trans (hb1.mono (by simp; omega))); clear hb1) | (refine wpList_store_row rfl 33 _ _ rfl w.heap.size (u8s (zerosB 32)) rfl rfl 33 _ hrow.out info_id rfl (u8s_one _) ?_))
  try simp only [Exit.inBlock, Exit.then]
  exact bodyPost_ret (results_row_tmp rfl _ _ w.heap.size 33 _ _ _ rfl (setRow_heap _ _ _ _ _ _ hrow.out) Tryd.underlying33 rfl info_id) rfl ⟨rfl, below_setRow' (g := w.heap.size) hB1.out (Nat.le_refl _) _⟩
end Go.Proofs.YtdlblhoaddfanaaDoor
namespace Go.Proofs.YtdlblhoaddfanaaDoor
open Go.RowKit Go.YtdlblhoaddfanaaDoor
set_option linter.unusedVariables false
theorem rd_at {w : World} {a : Option Addr} {n c : Nat} {l : List Int} (h : RdB w (.slice a n c) l) (i : Nat) (hi : i < l.length) : ∃ b o, a = some ⟨b, o, none⟩ ∧ b < w.heap.size ∧ w.cell? ⟨b, o + i, none⟩ = some (.int .u8 (ith l i)) := by
  rcases h with ⟨_, _, _, _, rfl⟩ | ⟨b, o, c', h1, h2, h3, h4, h5⟩
  · exact absurd hi (Nat.not_lt_zero _)
  · cases h1
    exact ⟨b, o, rfl, h4, h5 i hi⟩
def IsB (e : Ending) : Prop := ∃ b, e = .returned (.bool b)
set_option maxRecDepth 100000 in
theorem long_any (A : Option Addr) (n c : Nat) (w : World) (hn : n ≤ 140737488355328) (hcell : ∀ i, i < n → ∃ b o, A = some ⟨b, o, none⟩ ∧ ∃ sa sn sc, w.cell? ⟨b, o + i, none⟩ = some (.slice sa sn sc)) :
    Calls Tryd.prog 13 #[.slice A n c] w fun e w' => IsB e ∧ w' = w := by
  have hcell' := Lib.hid hcell
  clear hcell
  go_enter Tryd.func13, Tryd.ntmps13
  go_wp2
  go_loop [3, 4] (fun t i => ∃ (k : Nat) (z : Int), k ≤ n ∧ i = .int .i64 k ∧ t = .int .i64 z) (fun _ i => match i with | .int _ m => n - m.toNat | _ => 0)
  case atStart => exact ⟨0, 0, Nat.zero_le _, rfl, rfl⟩
  case round =>
    obtain ⟨k, z, hk, rfl, rfl⟩ := hrel
    by_cases hlt : k < n
    · obtain ⟨b, o, rfl, sa, sn, sc, hc⟩ := hcell'.out k hlt
      go_wp2
      · exact ⟨⟨k + 1, _, by omega, by go_num, rfl⟩, by go_num⟩
      · exact ⟨⟨k + 1, _, by omega, by go_num, rfl⟩, by go_num⟩
      all_goals
        go_ret
        exact ⟨⟨_, rfl⟩, rfl⟩
    · go_wp2
      all_goals
        go_ret
        exact ⟨⟨_, rfl⟩, rfl⟩
theorem flatN_le (L : List (List Int)) (k : Nat) (h : k ≤ L.length) : (flatN L k).length ≤ L.flatten.length := by
  rw [← flatN_all]
  have key : ∀ d, (flatN L k).length ≤ (flatN L (k + d)).length := by
    intro d
    induction d with
    | zero => exact Nat.le_refl _
    | succ d ih => rw [← Nat.add_assoc, flatN, List.length_append]; omega
  have := key (L.length - k)
  rwa [show k + (L.length - k) = L.length by omega] at this
set_option maxRecDepth 100000 in
theorem whole_any (A : Option Addr) (c : Nat) (L : List (List Int)) (w : World) (hn : L.length ≤ 140737488355328) (ht : L.flatten.length ≤ 1048576)
    (hcell : ∀ i, i < L.length → ∃ b o, A = some ⟨b, o, none⟩ ∧ b < w.heap.size ∧ ∃ s, w.cell? ⟨b, o + i, none⟩ = some s ∧ RdB w s (nthL L i)) :
    Calls Tryd.prog 14 #[.slice A L.length c] w fun e w' => ∃ r, e = .returned r ∧ OwnB w.heap.size 5 w' r L.flatten ∧ Below w.heap.size w w' := by
  have hcell' := Lib.hid hcell
  have hfl := Lib.hid (fun k (h : k ≤ L.length) => Nat.le_trans (flatN_le L k h) ht)
  clear hcell ht
  rw [← flatN_all]
  generalize hm : L.length = n at *
  have hm' := Lib.hid hm; clear hm
  go_enter Tryd.func14, Tryd.ntmps14
  go_wp2
  go_loopw [3, 4] (fun s i wr => ∃ k : Nat, k ≤ n ∧ i = .int .i64 k ∧ OwnB w.heap.size 5 wr s (flatN L k) ∧ Below w.heap.size w wr) (fun _ i _ => match i with | .int _ m => n - m.toNat | _ => 0)
  case atStart => exact ⟨0, Nat.zero_le _, rfl, OwnB.nil _ _ _, Below.refl _ _⟩
  case round =>
    obtain ⟨k, hk, rfl, ho, hb⟩ := hrel
    obtain ⟨sa, sc, rfl⟩ := ho.rd.slice
    by_cases hlt : k < n
    · obtain ⟨b, o, rfl, hbw, s, hs, hrs⟩ := hcell'.out k hlt
      have hrs' := hrs.mono hb
      obtain ⟨qa, qc, rfl⟩ := hrs.slice
      have hc := (hb.cell (p := (⟨b, o + k, none⟩ : Addr)) hbw).trans hs
      have ho' := Lib.hid ho; have hb' := Lib.hid hb; have hrs2 := Lib.hid hrs'
      have hl2 : (flatN L k).length + (nthL L k).length ≤ 1048576 := by
        have := hfl.out (k + 1) hlt
        rwa [flatN, List.length_append] at this
      clear hrs hs ho hrs' hb
      go_wp2_with (refine appendB rfl _ _ 24 rfl w.heap.size 5 Tryd.underlying24 (by kernel_rfl) _ rfl _ ho'.out _ rfl _ hrs2.out (by omega) hb'.out.size ?_)
      intro v' w' h1 h2
      have hb2 := ho'.out.below h2 hb'.out.size
      refine Stop.go ?_
      go_wp2
      go_roundw
      case rel => exact ⟨k + 1, by omega, by go_num, h1, hb'.out.trans hb2⟩
      case measure => go_num
    · have hkn : k = n := by omega
      subst hkn
      go_wp2
      go_ret
      exact ⟨_, rfl, ho, hb⟩
end Go.Proofs.YtdlblhoaddfanaaDoor
namespace Go.Proofs.YtdlblhoaddfanaaDoor
open Go.RowKit Go.YtdlblhoaddfanaaDoor
set_option linter.unusedVariables false
set_option maxRecDepth 100000 in
theorem sameb_yes (a1 a2 : Option Addr) (c1 c2 n : Nat) (l : List Int) (w : World) (hn : l.length = n) (hm : n ≤ 140737488355328) (h1 : RdB w (.slice a1 n c1) l) (h2 : RdB w (.slice a2 n c2) l) :
    Calls Tryd.prog 10 #[.slice a1 n c1, .slice a2 n c2] w fun e w' => e = .returned (.bool true) ∧ Below w.heap.size w w' := by
  have h1' := Lib.hid h1; have h2' := Lib.hid h2; have hn' := Lib.hid hn
  clear h1 h2 hn
  go_enter Tryd.func10, Tryd.ntmps10
  go_wp2
  go_loopw [5] (fun i wr => ∃ k : Nat, k ≤ n ∧ i = .int .i64 k ∧ Draws w wr) (fun i _ => match i with | .int _ m => n - m.toNat | _ => 0)
  case atStart => exact ⟨0, Nat.zero_le _, rfl, Draws.refl _⟩
  case round =>
    obtain ⟨k, hk, rfl, hd⟩ := hrel
    by_cases hlt : k < n
    · obtain ⟨b, o, rfl, _, e1⟩ := rd_at h1'.out k (by rw [hn'.out]; exact hlt)
      obtain ⟨b', o', rfl, _, e2⟩ := rd_at h2'.out k (by rw [hn'.out]; exact hlt)
      have c1 := (hd.cell _).trans e1
      have c2 := (hd.cell _).trans e2
      go_wp2
      go_quiet (fail)
      go_wp2
      go_roundw
      case rel => exact ⟨k + 1, by omega, by go_num, hd.drewN _⟩
      case measure => go_num
    · go_wp2
      go_ret
      exact ⟨rfl, hd.below (Below.refl _ _)⟩
end Go.Proofs.YtdlblhoaddfanaaDoor
namespace Go.Proofs.YtdlblhoaddfanaaDoor
open Go.RowKit Go.YtdlblhoaddfanaaDoor
set_option linter.unusedVariables false
/-- The two listed variables. -/
def GlO (Tg Tf : TypeId) (w : World) : Prop := w.heap[2]? = some (.cells (u32s constW) Tg (0, 0)) ∧ w.heap[0]? = some (.cells firstW.cells Tf (0, 0))
theorem GlO.mono {Tg Tf : TypeId} {w w' : World} (h : GlO Tg Tf w) (hb : Below w.heap.size w w') : GlO Tg Tf w' :=
  ⟨(hb.block _ (Array.getElem?_eq_some_iff.1 h.1).1).trans h.1, (hb.block _ (Array.getElem?_eq_some_iff.1 h.2).1).trans h.2⟩
theorem blocksF_ok (v : V8) (l : List Int) (hv : v.ok) : (blocksF v l).ok := by unfold blocksF; exact grindN_ok _ _ _ hv
end Go.Proofs.YtdlblhoaddfanaaDoor
namespace Go.Proofs.YtdlblhoaddfanaaDoor
open Go.RowKit Go.YtdlblhoaddfanaaDoor
set_option linter.unusedVariables false
theorem rowD {w w' : World} {g : Nat} {o : Obj} (h : w.heap[g]? = some o) (hb : Below w.heap.size w w') : w'.heap[g]? = some o := (hb.block g (Array.getElem?_eq_some_iff.1 h).1).trans h
end Go.Proofs.YtdlblhoaddfanaaDoor
namespace Go.Proofs.YtdlblhoaddfanaaDoor
open Go.RowKit Go.YtdlblhoaddfanaaDoor
set_option linter.unusedVariables false
theorem rdW_new (w : World) (g : Nat) (x : Int) (T : TypeId) (h : w.heap[g]? = some (.cells #[.int .u32 x] T (0, 0))) : RdW w (.slice (some ⟨g, 0, none⟩) 1 1) [x] := .inr ⟨g, 0, 1, rfl, Nat.le_refl _, by decide, (Array.getElem?_eq_some_iff.1 h).1, fun i hi => by
  have hi0 : i = 0 := by simpa using hi
  subst hi0
  rw [Nat.zero_add, cell_of_row _ _ _ _ _ _ h]; rfl⟩
theorem below_lit (w : World) (o : Obj) : Below w.heap.size w (w.alloc o).drew := ((Draws.refl _).drewN 1).below ((Below.refl _ _).alloc (Nat.le_refl _) o)
theorem rturn_int (x n : Int) (w : World) (hx : In32 x) (h : 1 ≤ n) (h2 : n ≤ 31) :
    Calls Tryd.prog 38 #[.int .u32 x, .int .i64 n] w fun e w' => e = .returned (.int .u32 (rotr x n)) ∧ ∃ m, w' = w.drewN m := by
  obtain ⟨n, rfl⟩ := Int.eq_ofNat_of_zero_le (show 0 ≤ n by omega)
  exact rturn_any x n w hx.1 hx.2 (by omega) (by omega)
def nextV (a0 a9 a1 a14 : Int) : Int := (((a0 + a9) % 4294967296 + sig0 a1) % 4294967296 + sig1 a14) % 4294967296
theorem nextW_at (x : List Int) (k : Nat) (h : x.length = k + 16) : nextW x = nextV (ith x k) (ith x (k + 9)) (ith x (k + 1)) (ith x (k + 14)) := by
  have e : nextV (ith x k) (ith x (k + 9)) (ith x (k + 1)) (ith x (k + 14)) = (ith x k + ith x (k + 9) + sig0 (ith x (k + 1)) + sig1 (ith x (k + 14))) % 4294967296 := by unfold nextV; omega
  rw [e]; unfold nextW
  rw [h, show k + 16 - 16 = k by omega, show k + 16 - 7 = k + 9 by omega, show k + 16 - 15 = k + 1 by omega, show k + 16 - 2 = k + 14 by omega]
set_option maxRecDepth 100000 in
set_option maxHeartbeats 0 in
theorem rground_any (v : V8) (b o n c : Nat) (l : List Int) (w : World) (hv : v.ok) (hn : 64 ≤ n) (hnc : n ≤ c) (hcm : c ≤ maxLen) (hl : Bytes l)
    (hcell : ∀ i, i < 64 → w.cell? ⟨b, o + i, none⟩ = some (.int .u8 (ith l i))) :
    Calls Tryd.prog 32 #[.agg v.cells, .slice (some ⟨b, o, none⟩) n c] w fun e w' => e = .returned (.agg (groundF v l).cells) ∧ Below w.heap.size w w' := by
  have hbl : b < w.heap.size := World.block_lt_of_cell? _ _ (hcell 0 (by omega))
  unfold maxLen at hcm
  have hcell' := Lib.hid hcell; clear hcell
  have hl' := Lib.hid hl; clear hl
  unfold V8.cells
  go_enter Tryd.func32, Tryd.ntmps32
  go_wp2
  have k1 := Lib.hid ((hp1 (w.alloc (.cells (u32s v.list) 23)) (.cells (u32s [0, 0, 0, 0, 0, 0, 0, 0]) 23) w.heap.size (by simp)).trans (heap_alloc_new w _))
  have k2 := Lib.hid (hn2 w (.cells (u32s v.list) 23) (.cells (u32s [0, 0, 0, 0, 0, 0, 0, 0]) 23))
  have kB := Lib.hid (show Below w.heap.size w ((w.alloc (.cells (u32s v.list) 23)).alloc (.cells (u32s [0, 0, 0, 0, 0, 0, 0, 0]) 23)) from ((Below.refl _ _).alloc (Nat.le_refl _) _).alloc (by simp) _)
  have kz : ((w.alloc (.cells (u32s v.list) 23)).alloc (.cells (u32s [0, 0, 0, 0, 0, 0, 0, 0]) 23)).heap.size = w.heap.size + 2 := by simp
  change Code.wp _ _ _ _ ((w.alloc (.cells (u32s v.list) 23)).alloc (.cells (u32s [0, 0, 0, 0, 0, 0, 0, 0]) 23))
  generalize (w.alloc (.cells (u32s v.list) 23)).alloc (.cells (u32s [0, 0, 0, 0, 0, 0, 0, 0]) 23) = W at *
  go_loopw [5, 6] (fun s i wr => ∃ k : Nat, k ≤ 16 ∧ i = .int .i64 (k : Int) ∧ OwnW W.heap.size 22 wr s (wordsOf l k) ∧ Below W.heap.size W wr) (fun _ i _ => 16 - (intOf i).toNat)
  case atStart => exact ⟨0, by omega, rfl, OwnW.nil _ _ _, Below.refl _ _⟩
  case round =>
    obtain ⟨k, hk, rfl, ho, hb⟩ := hrel
    obtain ⟨sa, sc, rfl⟩ := ho.rd.slice
    have hlen := wordsOf_length l k
    by_cases hlt : k < 16
    · have hq : ∀ j, j < 4 → wr.cell? ⟨b, o + (4 * k + j), none⟩ = some (.int .u8 (ith l (4 * k + j))) := fun j hj => by
        rw [hb.cell (p := ⟨b, o + (4 * k + j), none⟩) (by rw [kz]; exact Nat.lt_of_lt_of_le hbl (by omega)), kB.out.cell (p := ⟨b, o + (4 * k + j), none⟩) hbl]; exact hcell'.out _ (by omega)
      have q0 := hq 0 (by omega); have q1 := hq 1 (by omega); have q2 := hq 2 (by omega); have q3 := hq 3 (by omega)
      rw [Nat.add_zero] at q0
      obtain ⟨a0, a1⟩ := hl'.out (4 * k); obtain ⟨b0, b1⟩ := hl'.out (4 * k + 1); obtain ⟨c0, c1⟩ := hl'.out (4 * k + 2); obtain ⟨d0, d1⟩ := hl'.out (4 * k + 3)
      have hws : wordsOf l (k + 1) = wordsOf l k ++ [word4 (ith l (4 * k)) (ith l (4 * k + 1)) (ith l (4 * k + 2)) (ith l (4 * k + 3))] := rfl
      have ho' := Lib.hid ho; have hb' := Lib.hid hb; have hzw := hb.size; have hws' := Lib.hid hws
      clear ho hb hq hws
      have m3 : 4 * k + 3 < 64 := by omega
      have x0 : IntKind.i64.wrap (4 * (k : Int)) = ((4 * k : Nat) : Int) := by rw [IntWalk.i64_in _ (by omega)]; omega
      generalize 4 * k = m at *
      have x1 : IntKind.i64.wrap ((m : Int) + 1) = (m : Int) + 1 := IntWalk.i64_in _ (by omega)
      have x2 : IntKind.i64.wrap ((m : Int) + 2) = (m : Int) + 2 := IntWalk.i64_in _ (by omega)
      have x3 : IntKind.i64.wrap ((m : Int) + 3) = (m : Int) + 3 := IntWalk.i64_in _ (by omega)
      have y0 : (m : Int) < n := by omega
      have y1 : (m : Int) + 1 < n := by omega
      have y2 : (m : Int) + 2 < n := by omega
      have y3 : (m : Int) + 3 < n := by omega
      have z1 : 0 ≤ (m : Int) + 1 := by omega
      have z2 : 0 ≤ (m : Int) + 2 := by omega
      have z3 : 0 ≤ (m : Int) + 3 := by omega
      have t1 : ((m : Int) + 1).toNat = m + 1 := by omega
      have t2 : ((m : Int) + 2).toNat = m + 2 := by omega
      have t3 : ((m : Int) + 3).toNat = m + 3 := by omega
      have e0 : IntKind.u32.wrap (ith l m) = ith l m := IntWalk.u32_in _ (by omega)
      have e1 : IntKind.u32.wrap (ith l (m + 1)) = ith l (m + 1) := IntWalk.u32_in _ (by omega)
      have e2 : IntKind.u32.wrap (ith l (m + 2)) = ith l (m + 2) := IntWalk.u32_in _ (by omega)
      have e3 : IntKind.u32.wrap (ith l (m + 3)) = ith l (m + 3) := IntWalk.u32_in _ (by omega)
      have e4 : IntKind.u32.wrap (ith l m * 256) = ith l m * 256 := IntWalk.u32_in _ (by omega)
      have e5 : IntKind.u32.wrap (ith l m * 256 + ith l (m + 1)) = ith l m * 256 + ith l (m + 1) := IntWalk.u32_in _ (by omega)
      have e6 : IntKind.u32.wrap ((ith l m * 256 + ith l (m + 1)) * 256) = (ith l m * 256 + ith l (m + 1)) * 256 := IntWalk.u32_in _ (by omega)
      have e7 : IntKind.u32.wrap ((ith l m * 256 + ith l (m + 1)) * 256 + ith l (m + 2)) = (ith l m * 256 + ith l (m + 1)) * 256 + ith l (m + 2) := IntWalk.u32_in _ (by omega)
      have e8 : IntKind.u32.wrap (((ith l m * 256 + ith l (m + 1)) * 256 + ith l (m + 2)) * 256) = ((ith l m * 256 + ith l (m + 1)) * 256 + ith l (m + 2)) * 256 := IntWalk.u32_in _ (by omega)
      have e9 : IntKind.u32.wrap (((ith l m * 256 + ith l (m + 1)) * 256 + ith l (m + 2)) * 256 + ith l (m + 3)) = word4 (ith l m) (ith l (m + 1)) (ith l (m + 2)) (ith l (m + 3)) := by
        rw [IntWalk.u32_in _ (by omega)]; unfold word4; omega
      have hlen' := Lib.hid hlen
      rw [hlen] at ho' ⊢
      generalize word4 (ith l m) (ith l (m + 1)) (ith l (m + 2)) (ith l (m + 3)) = X at *
      clear a0 a1 b0 b1 c0 c1 d0 d1 hlen
      have fin : Hid (∀ v' w', OwnW W.heap.size 22 w' v' (wordsOf l k ++ [X]) → ((wr.alloc (.cells #[.int .u32 X] 22)).drew).grownBy w' (Value.slice sa k sc).ownBlock → ∃ va vc, v' = .slice va (k + 1) vc ∧ OwnW W.heap.size 22 w' v' (wordsOf l (k + 1)) ∧ Below W.heap.size W w') := Lib.hid (by
        intro v' w' h1 h2
        rw [← hws'.out] at h1
        obtain ⟨va, vc, hv'⟩ := h1.rd.slice
        rw [wordsOf_length] at hv'
        exact ⟨va, vc, hv', h1, hb'.out.trans (((below_lit wr _).mono hzw).trans ((ho'.out.kept (below_lit wr _)).below h2 (by simp; omega)))⟩)
      go_wp2
      have kk : Hid (∀ w', Below W.heap.size W w' → w'.cell? ⟨b, o + m, none⟩ = some (.int .u8 (ith l m)) ∧ w'.cell? ⟨b, o + (m + 1), none⟩ = some (.int .u8 (ith l (m + 1))) ∧ w'.cell? ⟨b, o + (m + 2), none⟩ = some (.int .u8 (ith l (m + 2))) ∧ w'.cell? ⟨b, o + (m + 3), none⟩ = some (.int .u8 (ith l (m + 3)))) := Lib.hid (fun w' h => by
        refine ⟨?_, ?_, ?_, ?_⟩ <;> (rw [h.cell (p := ⟨b, _, none⟩) (show b < _ by rw [kz]; omega), ← hb'.out.cell (p := ⟨b, _, none⟩) (show b < _ by rw [kz]; omega)]; assumption))
      go_region_held3 (fun w' => w'.cell? ⟨b, o + m, none⟩ = some (.int .u8 (ith l m)) ∧ w'.cell? ⟨b, o + (m + 1), none⟩ = some (.int .u8 (ith l (m + 1))) ∧ w'.cell? ⟨b, o + (m + 2), none⟩ = some (.int .u8 (ith l (m + 2))) ∧ w'.cell? ⟨b, o + (m + 3), none⟩ = some (.int .u8 (ith l (m + 3))))
        (first | (exact kk.out _ h4'.out) | go_keep)
        ((refine step_appendW (by rfl) _ _ 68 (by rfl) W.heap.size 22 Tryd.underlying68 (by kernel_rfl) (.slice sa k sc) (by rfl) (wordsOf l k) (ho'.out.kept (below_lit wr (.cells #[.int .u32 X] 22))) (.slice (some ⟨wr.heap.size, 0, none⟩) 1 1) (by rfl) [X] (rdW_new _ _ _ _ (heap_alloc_new wr _)) (by rw [hlen'.out]; simp; omega) (by simp; omega) ?_; intro v' w' h1 h2; obtain ⟨va, vc, rfl, h3, h4⟩ := fin.out v' w' h1 h2; have h3' := Lib.hid h3; have h4' := Lib.hid h4; clear h1 h2 h3 h4))
      go_wp2
      go_roundw
      case rel => exact ⟨k + 1, by omega, by go_num, h3'.out, h4'.out⟩
      case measure => simp [intOf]; omega
    · obtain rfl : k = 16 := by omega
      generalize hL : wordsOf l 16 = L0 at *
      have hL32 := Lib.hid (show All32 L0 by rw [← hL]; exact wordsOf_in l hl'.out 16)
      have hLl := Lib.hid hlen
      rw [hlen]
      have hL' := Lib.hid hL
      clear hL hlen
      rw [show (((16 : Nat) : Int)) = 16 from rfl]
      rw [hLl.out] at ho
      go_wp2
      go_loopw [5, 7, 8, 9] (fun s i _ _ wr => ∃ k : Nat, k ≤ 48 ∧ i = .int .i64 (k + 16 : Nat) ∧ OwnW W.heap.size 22 wr s (extW L0 k) ∧ Below W.heap.size W wr) (fun _ i _ _ _ => 64 - (intOf i).toNat)
      case atStart => exact ⟨0, by omega, rfl, ho, hb⟩
      case round =>
        clear ho hb
        obtain ⟨k, hk, rfl, ho, hb⟩ := hrel
        have hxl : (extW L0 k).length = k + 16 := by rw [extW_length, hLl.out]; omega
        have hx32 : All32 (extW L0 k) := extW_in L0 hL32.out k
        have hxs : extW L0 (k + 1) = extW L0 k ++ [nextW (extW L0 k)] := rfl
        rw [nextW_at _ _ hxl] at hxs
        rcases ho.rd with ⟨qa, qc, rfl, _, h0⟩ | ⟨b', o', c', rfl, hc1, hc2, hb', hcl⟩
        · rw [h0] at hxl; simp at hxl
        by_cases hlt : k < 48
        · have c0 := hcl k (by omega); have c1 := hcl (k + 1) (by omega); have c9 := hcl (k + 9) (by omega); have c14 := hcl (k + 14) (by omega)
          have A1 := Lib.hid (hx32 (k + 1)); have A14 := Lib.hid (hx32 (k + 14))
          have hxs' := Lib.hid hxs; have ho' := Lib.hid ho; have hb1 := Lib.hid hb; have hxl' := Lib.hid hxl
          have hzw := hb.size
          rw [hxl] at ho' ⊢
          clear hxs ho hb hxl hcl hx32
          generalize ith (extW L0 k) k = a0 at *
          generalize ith (extW L0 k) (k + 1) = a1 at *
          generalize ith (extW L0 k) (k + 9) = a9 at *
          generalize ith (extW L0 k) (k + 14) = a14 at *
          generalize hy : extW L0 (k + 1) = y at *
          have hy' := Lib.hid hy; clear hy
          generalize extW L0 k = x at *
          unfold maxLen at hc2
          go_wp2
          go_quiet (fail)
          go_wp2
          generalize ht : k + 16 = t at *
          generalize h9 : k + 9 = k9 at *
          have e1 : IntKind.i64.wrap ((t : Int) - 16) = (k : Int) := by rw [IntWalk.i64_in _ (by omega)]; omega
          have e2 : IntKind.i64.wrap ((t : Int) - 7) = (k9 : Int) := by rw [IntWalk.i64_in _ (by omega)]; omega
          have b1 : (k : Int) < (t : Int) := by omega
          have b2 : (k9 : Int) < (t : Int) := by omega
          have b5 : t < 64 := by omega
          have b3 : (0 : Int) ≤ (k : Int) := by omega
          have b4 : (0 : Int) ≤ (k9 : Int) := by omega
          have ht' := Lib.hid ht; have h9' := Lib.hid h9
          clear ht h9
          have r1 : Hid (∀ (n : Int) (w : World), 1 ≤ n → n ≤ 31 → Calls Tryd.prog 38 #[.int .u32 a1, .int .i64 n] w fun e w' => e = .returned (.int .u32 (rotr a1 n)) ∧ ∃ m, w' = w.drewN m) := Lib.hid (fun n w h h2 => rturn_int a1 n w A1.out h h2)
          have r14 : Hid (∀ (n : Int) (w : World), 1 ≤ n → n ≤ 31 → Calls Tryd.prog 38 #[.int .u32 a14, .int .i64 n] w fun e w' => e = .returned (.int .u32 (rotr a14 n)) ∧ ∃ m, w' = w.drewN m) := Lib.hid (fun n w h h2 => rturn_int a14 n w A14.out h h2)
          have fin : Hid (∀ v' w0 w', Below wr.heap.size wr w0 → OwnW W.heap.size 22 w' v' (x ++ [nextV a0 a9 a1 a14]) → w0.grownBy w' (Value.slice (some ⟨b', o', none⟩) t c').ownBlock → ∃ va vc, v' = .slice va (t + 1) vc ∧ OwnW W.heap.size 22 w' v' y ∧ Below W.heap.size W w') := Lib.hid (by
            intro v' w0 w' h0 h1 h2
            obtain ⟨va, vc, hv'⟩ := h1.rd.slice
            rw [List.length_append, hxl'.out] at hv'
            exact ⟨va, vc, hv', by rw [hxs'.out]; exact h1, hb1.out.trans ((h0.mono hzw).trans ((ho'.out.kept h0).below h2 (Nat.le_trans hzw h0.size)))⟩)
          refine wp_region_headN (C := fun w' => ∃ n, w' = wr.drewN n) 30 [0] (by kernel_rfl) (by kernel_rfl) ⟨_, drewN_next _ _⟩ ?_
          simp only [List.take_succ_cons, List.take_zero, List.drop_succ_cons, List.drop_zero]
          refine head_pure (.slice (some ⟨b', o', none⟩) t c') (by rfl) (run_move _ rfl (by rfl)) rfl (fun K hK => ?_); go_simp; refine hK _ ?_; clear hK K
          repeat (refine head_walk (by rfl) (fun K hK => ?_); go_simp; first | (refine hK _ ?_; clear hK K) | (apply Exists.intro; refine ⟨fun _ => ?_, hK _ ?_⟩; (go_at_call 38; first | ((with_reducible refine Calls.quiet_of (r1.out _ _ ?_ ?_)) <;> decide) | ((with_reducible refine Calls.quiet_of (r14.out _ _ ?_ ?_)) <;> decide)); clear hK K))
          refine head_nil ?_
          intro w' hw'
          obtain ⟨nz, rfl⟩ := hw'
          have hbz := Lib.hid (show Below wr.heap.size wr ((wr.drewN nz).alloc (.cells #[.int .u32 (nextV a0 a9 a1 a14)] 22)) from (((Draws.refl _).drewN nz).below (Below.refl _ _)).alloc (by simp) _)
          have hrdz := Lib.hid (show RdW ((wr.drewN nz).alloc (.cells #[.int .u32 (nextV a0 a9 a1 a14)] 22)) (.slice (some ⟨wr.heap.size, 0, none⟩) 1 1) [nextV a0 a9 a1 a14] from rdW_new _ _ _ _ (heap_alloc_new (wr.drewN nz) _))
          go_wp2_with (go_loud (refine appendW rfl _ _ 68 rfl W.heap.size 22 Tryd.underlying68 (by kernel_rfl) (.slice (some ⟨b', o', none⟩) t c') (by rfl) x (ho'.out.kept hbz.out) (.slice (some ⟨wr.heap.size, 0, none⟩) 1 1) (by rfl) [nextV a0 a9 a1 a14] hrdz.out (by rw [hxl'.out]; simp; omega) (Nat.le_trans hzw hbz.out.size) ?_))
          intro v' w' h1 h2
          rw [← kz] at h1
          have h2 := show ((wr.drewN nz).alloc (.cells #[.int .u32 ((a0 + a9 + sig0 a1 + sig1 a14) % 4294967296)] 22)).grownBy w' (Value.slice (some ⟨b', o', none⟩) t c').ownBlock from h2
          rw [show (a0 + a9 + sig0 a1 + sig1 a14) % 4294967296 = nextV a0 a9 a1 a14 by unfold nextV; omega] at h2
          obtain ⟨va, vc, rfl, h3, h4⟩ := fin.out v' _ w' hbz.out h1 h2
          have h3' := Lib.hid h3; have h4' := Lib.hid h4
          clear h1 h2 h3 h4
          refine Stop.go ?_
          go_wp2
          refine NoPanic.normal ?_
          go_wp2
          go_roundw
          case rel => exact ⟨k + 1, by omega, by rw [show k + 1 + 16 = t + 1 by have := ht'.out; omega]; go_num, by rw [hy'.out]; exact h3'.out, h4'.out⟩
          case measure => have := ht'.out; simp [intOf]; omega
        · have hk48 : k = 48 := by omega
          subst hk48
          have hws : extW L0 48 = spreadF l := by rw [← hL'.out]; rfl
          rw [hws] at hcl hxl hxs ho ⊢
          have hsl := spreadF_length l
          have hs32 := Lib.hid (spreadF_in l hl'.out)
          rw [hws, hsl] at hc1
          rw [hsl] at hcl ⊢
          have hG : groundF v l = v.add (rounds constW (spreadF l) v 64) := rfl
          have hG' := Lib.hid hG
          generalize spreadF l = ws at *
          have hcl' := Lib.hid hcl; have hsl' := Lib.hid hsl; have hb1 := Lib.hid hb; have hL1 := Lib.hid hL'
          have hzw := hb.size
          clear hcl hsl hG ho hb hxl hxs hx32 hws hL'
          rw [show (((48 + 16 : Nat) : Int)) = 64 from rfl]
          have q1 := Lib.hid ((hb1.out.block w.heap.size (by omega)).trans k1.out)
          have q2 := Lib.hid ((hb1.out.block (w.heap.size + 1) (by omega)).trans k2.out)
          have hBw := Lib.hid (kB.out.trans (hb1.out.mono (by omega)))
          have hzr : w.heap.size + 1 < wr.heap.size := by omega
          clear hb1 kB k1 k2 kz
          go_wp2_with (go_at_call 39; refine (rconst_any _).mono ?_; rintro e w1 ⟨rfl, rfl⟩; refine Stop.go'' _ ?_)
          refine StopP.go ?_
          have hc64 : constW.length = 64 := by rfl
          have r1 := Lib.hid ((hp1 wr (.cells (u32s constW) 22) w.heap.size (by omega)).trans q1.out)
          have r2 := Lib.hid ((hp1 wr (.cells (u32s constW) 22) (w.heap.size + 1) (by omega)).trans q2.out)
          have r3 := Lib.hid (heap_alloc_new wr (.cells (u32s constW) 22))
          have hBx := Lib.hid (hBw.out.alloc (by omega) (.cells (u32s constW) 22))
          have hclx := Lib.hid (fun i hi => ((Below.refl wr.heap.size wr).alloc (Nat.le_refl _) (.cells (u32s constW) 22)).cell (p := ⟨b', o' + i, none⟩) hb' |>.trans (hcl'.out i hi))
          have hzx : (wr.alloc (.cells (u32s constW) 22)).heap.size = wr.heap.size + 1 := by simp
          generalize wr.alloc (.cells (u32s constW) 22) = wx at *
          generalize hgC : wr.heap.size = gC at *
          have hgC' := Lib.hid hgC
          have hzx' := Lib.hid hzx
          have hzx2 : gC < wx.heap.size := by omega
          clear q1 q2 hBw hcl' hgC hzx
          go_wp2_with (first | (refine wpList_load_row rfl 23 _ rfl w.heap.size rfl 23 _ _ _ r1.out Tryd.underlying23 rfl (by kernel_rfl) ?_) | (refine storeNew wx rfl 23 _ _ rfl (u32s v.list) 23 rfl rfl (by kernel_rfl) (by simp [u32s, V8.list]) (u32s_one _) ?_; intro wy hr hby; have r4 := Lib.hid hr; have hby' := Lib.hid hby; clear hr hby; refine Stop.go'' _ ?_))
          refine StopP.go ?_
          have q1 := Lib.hid ((hby'.out.block w.heap.size (by omega)).trans r1.out)
          have q2 := Lib.hid ((hby'.out.block (w.heap.size + 1) (by omega)).trans r2.out)
          have q3 := Lib.hid ((hby'.out.block gC (by omega)).trans r3.out)
          have hcly := Lib.hid (fun i hi => (hby'.out.cell (p := ⟨b', o' + i, none⟩) (show b' < wx.heap.size by omega)).trans (hclx.out i hi))
          have hBy := Lib.hid (hBx.out.trans (hby'.out.mono (by omega)))
          have hzy : wx.heap.size < wy.heap.size := (Array.getElem?_eq_some_iff.1 r4.out).1
          clear r1 r2 r3 hclx hBx hby'
          generalize hgV : wx.heap.size = gV at *
          clear hzx' hgV hgC' wx
          have hRok := fun k => rounds_ok constW ws v k hv
          have hRs : ∀ k, rounds constW ws v (k + 1) = shaStep (rounds constW ws v k) (ith constW k) (ith ws k) := fun k => rfl
          have hck : ∀ k, k < 64 → wy.cell? ⟨gC, k, none⟩ = some (.int .u32 (ith constW k)) := fun k hk => by rw [cell_of_row _ _ _ _ _ _ q3.out]; exact u32s_get _ _ (by rw [hc64]; exact hk)
          have hR0 : rounds constW ws v 0 = v := rfl
          have hR0' := Lib.hid hR0; have hRok' := Lib.hid hRok; have hRs' := Lib.hid hRs; have hck' := Lib.hid hck
          clear hR0 hRok hRs hck q3 hc64
          generalize constW = cs at *
          generalize hR : (fun k => rounds cs ws v k) = R
          have hRR : ∀ k, rounds cs ws v k = R k := fun k => by rw [← hR]
          have hRR' := Lib.hid hRR
          clear hR hRR
          go_wp2
          go_loopw [12] (fun i wz => ∃ k : Nat, k ≤ 64 ∧ i = .int .i64 (k : Int) ∧ Below gV wy wz ∧ wz.heap[gV]? = some (.cells (u32s (R k).list) 23 (0, 0))) (fun i _ => 64 - (intOf i).toNat)
          case atStart => exact ⟨0, by omega, rfl, Below.refl _ _, by rw [← hRR'.out, hR0'.out]; exact r4.out⟩
          case round =>
            clear r4
            obtain ⟨k, hk, rfl, hbz, hrow⟩ := hrel
            by_cases hlt : k < 64
            · have hok := hRok'.out k
              rw [hRR'.out] at hok
              have A0 := Lib.hid hok.1; have E0 := Lib.hid hok.2.2.2.2.1
              obtain ⟨⟨_, _⟩, ⟨_, _⟩, ⟨_, _⟩, ⟨_, _⟩, ⟨_, _⟩, ⟨_, _⟩, ⟨_, _⟩, ⟨_, _⟩⟩ := hok
              obtain ⟨c0, c1, c2, c3, c4, c5, c6, c7⟩ := cells8 hrow
              have ck := (hbz.cell (p := ⟨gC, k, none⟩) (show gC < gV by omega)).trans (hck'.out k hlt)
              have cw := (hbz.cell (p := ⟨b', o' + k, none⟩) (show b' < gV by omega)).trans (hcly.out k (by omega))
              have i1 : (0 : Int) ≤ (k : Int) := by omega
              have i2 : (k : Int) < 64 := by omega
              have hS := hRs'.out k
              rw [hRR'.out, hRR'.out] at hS
              have hS' := Lib.hid hS; have hbz' := Lib.hid hbz; have hrow' := Lib.hid hrow
              clear hS hbz hrow
              go_wp2
              go_quiet (fail)
              go_wp2
              go_quiet (((go_at_call 38; (with_reducible refine quiet_of2 (rturn_int _ _ _ E0.out ?_ ?_)) <;> decide)))
              have hmx : (if IntKind.u32.signed = true then (-1 : Int) else IntKind.u32.max) = IntKind.u32.max := if_neg (by decide)
              generalize hP : ((((R k).h + bits BinOp.xor IntKind.u32 (bits BinOp.xor IntKind.u32 (rotr (R k).e 6) (rotr (R k).e 11)) (rotr (R k).e 25) + bits BinOp.xor IntKind.u32 (bits BinOp.and IntKind.u32 (R k).e (R k).f) (bits BinOp.and IntKind.u32 (bits BinOp.xor IntKind.u32 (if IntKind.u32.signed = true then (-1 : Int) else IntKind.u32.max) (R k).e) (R k).g) + ith cs k) % 4294967296 + ith ws k) % 4294967296) = pp
              have hPP := Lib.hid (show pp = pOf (R k) (ith cs k) (ith ws k) by rw [← hP, hmx]; unfold pOf; omega)
              clear hP hmx
              generalize hWq : (wr.drewN _).drewN _ = wq
              have d3 : wq.cell? ⟨gV, 3, none⟩ = some (.int .u32 (R k).d) := by rw [← hWq]; exact c3
              have hroq := Lib.hid (show wq.heap[gV]? = some (.cells (u32s (R k).list) 23 (0, 0)) by rw [← hWq]; exact hrow'.out)
              have hbq := Lib.hid (show Below gV wy wq by rw [← hWq]; exact (((Draws.refl wr).drewN _).drewN _).below hbz'.out)
              clear hWq c0 c1 c2 c3 c4 c5 c6 c7 ck cw hrow' hbz'
              go_upto_region 19 with (go_at_call 38; (with_reducible refine (rturn_int _ _ _ A0.out (by decide) (by decide)).mono ?_); rintro e w' ⟨rfl, ⟨nn, rfl⟩⟩)
              generalize hQ : ((bits BinOp.xor IntKind.u32 (bits BinOp.xor IntKind.u32 (rotr (R k).a 2) (rotr (R k).a 13)) (rotr (R k).a 22) + bits BinOp.xor IntKind.u32 (bits BinOp.xor IntKind.u32 (bits BinOp.and IntKind.u32 (R k).a (R k).b) (bits BinOp.and IntKind.u32 (R k).a (R k).c)) (bits BinOp.and IntKind.u32 (R k).b (R k).c)) % 4294967296) = qq
              have hQQ : qq = qOf (R k) := by rw [← hQ]; rfl
              have hX := Lib.hid (show R (k + 1) = V8.mk ((pp + qq) % 4294967296) (R k).a (R k).b (R k).c (((R k).d + pp) % 4294967296) (R k).e (R k).f (R k).g by rw [hS'.out, hPP.out, hQQ]; rfl)
              clear hQ hQQ hPP hS' A0 E0
              generalize hWr : wq.drewN _ = wr2
              have d3 : wr2.cell? ⟨gV, 3, none⟩ = some (.int .u32 (R k).d) := by rw [← hWr]; exact d3
              have hror := Lib.hid (show wr2.heap[gV]? = some (.cells (u32s (R k).list) 23 (0, 0)) by rw [← hWr]; exact hroq.out)
              have hbr := Lib.hid (show Below gV wy wr2 by rw [← hWr]; exact ((Draws.refl wq).drewN _).below hbq.out)
              clear hWr hroq hbq
              go_wp2_with (refine wpList_store_row rfl 23 _ _ rfl gV (V8.mk ((pp + qq) % 4294967296) (R k).a (R k).b (R k).c (((R k).d + pp) % 4294967296) (R k).e (R k).f (R k).g).cells rfl rfl 23 _ hror.out (by kernel_rfl) (by simp [u32s, V8.list, V8.cells]) (by simp [V8.cells, Value.oneCell']) ?_)
              go_roundw
              case rel =>
                have h := setRow_heap _ _ _ (V8.mk ((pp + qq) % 4294967296) (R k).a (R k).b (R k).c (((R k).d + pp) % 4294967296) (R k).e (R k).f (R k).g).cells _ _ hror.out
                exact ⟨k + 1, by omega, by go_num, below_setRow' hbr.out (Nat.le_refl _) _, by rw [hX.out]; exact h⟩
              case measure => simp [intOf]; omega
            · have hk64 : k = 64 := by omega
              subst hk64
              have z1 := Lib.hid ((hbz.block w.heap.size (by omega)).trans q1.out)
              have z2 := Lib.hid ((hbz.block (w.heap.size + 1) (by omega)).trans q2.out)
              have z3 := Lib.hid hrow
              have hBz := Lib.hid (hBy.out.trans (hbz.mono (by omega)))
              have hV := hG'.out
              rw [hRR'.out] at hV
              have hV' := Lib.hid hV
              clear hbz hrow q1 q2 hcly hBy hck' hRs' hRok' hR0' hRR' hV hG' hzy hb' hzw
              generalize R 64 = V at *
              rw [show (((64 : Nat) : Int)) = 64 from rfl]
              go_wp2
              go_loopw [21] (fun i wz => ∃ k : Nat, k ≤ 8 ∧ i = .int .i64 (k : Int) ∧ Below w.heap.size w wz ∧ wz.heap[w.heap.size]? = some (.cells (u32s (addN v.list V.list k)) 23 (0, 0)) ∧ wz.heap[w.heap.size + 1]? = some (.cells (u32s [0, 0, 0, 0, 0, 0, 0, 0]) 23 (0, 0)) ∧ wz.heap[gV]? = some (.cells (u32s V.list) 23 (0, 0))) (fun i _ => 8 - (intOf i).toNat)
              case atStart => exact ⟨0, by omega, rfl, hBz.out, z1.out, z2.out, z3.out⟩
              case round =>
                clear z1 z2 z3 hBz
                obtain ⟨k, hk, rfl, hb, h0, h2, h3⟩ := hrel
                by_cases hlt : k < 8
                · have ch : wr.cell? ⟨w.heap.size, k, none⟩ = some (.int .u32 (ith (addN v.list V.list k) k)) := by
                    rw [cell_of_row _ _ _ _ _ _ h0]; exact u32s_get _ k (by rw [addN_length]; exact hlt)
                  have cv : wr.cell? ⟨gV, k, none⟩ = some (.int .u32 (ith V.list k)) := by
                    rw [cell_of_row _ _ _ _ _ _ h3]; exact u32s_get _ k hlt
                  have hf : wr.frozen? ⟨w.heap.size, k, none⟩ = false := frozen_of_row _ _ _ _ _ h0
                  have hn := setCell_row h0 k (.int .u32 ((ith (addN v.list V.list k) k + ith V.list k) % 4294967296))
                  rw [u32s_set] at hn
                  have hn2 := (setCell_rows (w := wr) w.heap.size k (.int .u32 ((ith (addN v.list V.list k) k + ith V.list k) % 4294967296)) (w.heap.size + 1) (by omega)).trans h2
                  have hn3 := (setCell_rows (w := wr) w.heap.size k (.int .u32 ((ith (addN v.list V.list k) k + ith V.list k) % 4294967296)) gV (by omega)).trans h3
                  have i1 : (0 : Int) ≤ (k : Int) := by omega
                  have i2 : (k : Int) < 8 := by omega
                  have hn' := Lib.hid hn; have hn2' := Lib.hid hn2; have hn3' := Lib.hid hn3; have hb' := Lib.hid hb
                  clear hn hn2 hn3 h0 h2 h3 hb
                  go_wp2
                  go_still_tail 8, (by kernel_rfl)
                  go_wp2
                  exact ⟨⟨k + 1, by omega, by go_num, (hb'.out.setCell (Nat.le_refl _) _).drew, hn'.out, hn2'.out, hn3'.out⟩, by simp [intOf]; omega⟩
                · have hk8 : k = 8 := by omega
                  subst hk8
                  rw [addN_eight] at h0
                  have h0' := Lib.hid h0; have h2' := Lib.hid h2
                  clear h0 h2 h3
                  go_wp2_with (first | (refine wpList_load_row rfl 23 _ rfl w.heap.size rfl 23 _ _ _ h0'.out Tryd.underlying23 rfl (by kernel_rfl) ?_) | (refine storeRow rfl 23 _ _ rfl (w.heap.size + 1) rfl _ rfl 23 _ h2'.out (by kernel_rfl) (by simp [u32s, V8.list]) (u32s_one _) ?_))
                  try simp only [Exit.inBlock, Exit.then]
                  refine bodyPost_ret (v := .agg (v.add V).cells) (results_cell_row rfl _ _ (w.heap.size + 1) 23 _ _ _ rfl (setRow_heap _ _ _ _ _ _ h2'.out) Tryd.underlying23 rfl (by kernel_rfl)) rfl ⟨by rw [hV'.out]; rfl, below_setRow' hb (by omega) _⟩
end Go.Proofs.YtdlblhoaddfanaaDoor
namespace Go.Proofs.YtdlblhoaddfanaaDoor
open Go.RowKit Go.YtdlblhoaddfanaaDoor
set_option linter.unusedVariables false
theorem rground_lit (v G : V8) (b o n c : Nat) (l : List Int) (w : World) (hv : v.ok) (hG : groundF v l = G) (hn : 64 ≤ n) (hnc : n ≤ c) (hcm : c ≤ maxLen) (hl : Bytes l)
    (hcell : ∀ i, i < 64 → w.cell? ⟨b, o + i, none⟩ = some (.int .u8 (ith l i))) :
    Calls Tryd.prog 32 #[.agg #[.int .u32 v.a, .int .u32 v.b, .int .u32 v.c, .int .u32 v.d, .int .u32 v.e, .int .u32 v.f, .int .u32 v.g, .int .u32 v.h], .slice (some ⟨b, o, none⟩) n c] w
      fun e w' => e = .returned (.agg #[.int .u32 G.a, .int .u32 G.b, .int .u32 G.c, .int .u32 G.d, .int .u32 G.e, .int .u32 G.f, .int .u32 G.g, .int .u32 G.h]) ∧ Below w.heap.size w w' := by
  subst hG
  exact rground_any v b o n c l w hv hn hnc hcm hl hcell
set_option maxRecDepth 100000 in
set_option maxHeartbeats 1000000 in
theorem rblocks_some (v : V8) (b o c : Nat) (l : List Int) (w : World) (hv : v.ok) (hlc : l.length ≤ c) (hcm : c ≤ maxLen) (hl : Bytes l) (hbw : b < w.heap.size) (hlm : l.length ≤ 1000000)
    (hcell : ∀ i, i < l.length → w.cell? ⟨b, o + i, none⟩ = some (.int .u8 (ith l i))) :
    Calls Tryd.prog 24 #[.agg #[.int .u32 v.a, .int .u32 v.b, .int .u32 v.c, .int .u32 v.d, .int .u32 v.e, .int .u32 v.f, .int .u32 v.g, .int .u32 v.h], .slice (some ⟨b, o, none⟩) l.length c] w
     fun e w' => e = .returned (.agg (blocksF v l).cells) ∧ Below w.heap.size w w' := by
  have hcell' := Lib.hid hcell; have hl' := Lib.hid hl
  clear hcell hl
  unfold maxLen at hcm
  generalize hn : l.length = n at *
  have hn' := Lib.hid hn; clear hn
  generalize hR : (fun k => grindN v l k) = R
  have hRok : ∀ k, (R k).ok := by subst hR; exact fun k => grindN_ok v l k hv
  have hR0 : R 0 = v := by subst hR; rfl
  have hRs : ∀ k, R (k + 1) = groundF (R k) (l.drop (64 * k)) := by subst hR; intro k; rfl
  have hRok' := Lib.hid hRok; have hR0' := Lib.hid hR0; have hRs' := Lib.hid hRs; have hR' := Lib.hid hR
  clear hRok hR0 hRs hR
  go_enter Tryd.func24, Tryd.ntmps24
  go_wp2
  go_loopw [5] (fun s wr => ∃ k : Nat, 64 * k ≤ n ∧ s = .int .i64 ((64 * k : Nat) : Int) ∧ Below w.heap.size w wr ∧ wr.heap[w.heap.size]? = some (.cells (u32s (R k).list) 23 (0, 0)) ∧ wr.heap[w.heap.size + 1]? = some (.cells (u32s [0, 0, 0, 0, 0, 0, 0, 0]) 23 (0, 0))) (fun s _ => n + 64 - (intOf s).toNat)
  case atStart =>
    refine ⟨0, by omega, rfl, ((Below.refl _ _).alloc (Nat.le_refl _) _).alloc (by simp) _, ?_, hn2 w _ _⟩
    rw [hR0'.out]; exact (hp1 _ _ _ (by simp)).trans (heap_alloc_new w _)
  case round =>
    obtain ⟨k, hk, rfl, hb, h0, h1⟩ := hrel
    have h0' := Lib.hid h0; have h1' := Lib.hid h1; have hb' := Lib.hid hb
    have hzr : w.heap.size + 1 < wr.heap.size := (Array.getElem?_eq_some_iff.1 h1).1
    clear h0 h1 hb
    by_cases hlt : 64 * k + 64 ≤ n
    · have hg := rground_lit (R k) (R (k + 1)) b (o + 64 * k) 64 (c - 64 * k) (l.drop (64 * k))
      have hS := hRs'.out k
      have hcl : ∀ wz, Below w.heap.size w wz → ∀ i, i < 64 → wz.cell? ⟨b, o + 64 * k + i, none⟩ = some (.int .u8 (ith (l.drop (64 * k)) i)) := fun wz h i hi => by
        rw [h.cell (p := (⟨b, o + 64 * k + i, none⟩ : Addr)) hbw, ith_drop, Nat.add_assoc]; exact hcell'.out _ (by omega)
      have hg2 := Lib.hid (fun wz h => hg wz (hRok'.out k) hS.symm (Nat.le_refl _) (by omega) (by unfold maxLen; omega) (bytes_drop _ _ hl'.out) (hcl wz h))
      clear hg hS hcl
      obtain ⟨c0, c1, c2, c3, c4, c5, c6, c7⟩ := cells8 h0'.out
      generalize hm : 64 * k = m at *
      have hm' := Lib.hid hm; clear hm
      have x1 : IntKind.i64.wrap ((m : Int) + 64) = (m : Int) + 64 := IntWalk.i64_in _ (by omega)
      have x2 : (0 : Int) ≤ (m : Int) + 64 := by omega
      have x3 : (m : Int) + 64 ≤ (c : Int) := by omega
      have x4 : ((m : Int) + 64).toNat = m + 64 := by omega
      have x5 : (m : Int) ≤ (m : Int) + 64 := by omega
      have x6 : m + 64 - m = 64 := by omega
      have x7 : ¬ c = m := by omega
      have x8 : ¬ c - m = 0 := by omega
      have x9 : (m : Int) + 64 ≤ (n : Int) := by omega
      go_wp2
      refine wp_region_headN (C := fun w' => ∃ n, w' = wr.drewN n) 6 [] (by kernel_rfl) (by kernel_rfl) ⟨1, rfl⟩ ?_
      simp only [List.take_succ_cons, List.take_zero, List.drop_succ_cons, List.drop_zero]
      repeat (refine head_walk (by rfl) (fun K hK => ?_); go_simp; refine hK _ ?_; clear hK K)
      refine head_nil ?_
      intro w' hw'
      obtain ⟨nz, rfl⟩ := hw'
      clear x1 x2 x3 x4 x5 x6 x7 x8 x9 c0 c1 c2 c3 c4 c5 c6 c7
      have hbz := Lib.hid (((Draws.refl wr).drewN nz).below hb'.out)
      have z0 := Lib.hid (show (wr.drewN nz).heap[w.heap.size]? = _ from h0'.out); have z1 := Lib.hid (show (wr.drewN nz).heap[w.heap.size + 1]? = _ from h1'.out)
      have hzz : w.heap.size + 1 < (wr.drewN nz).heap.size := hzr
      clear h0' h1' hb' hzr
      generalize wr.drewN nz = wz at *
      go_wp2_with (first | (go_at_call 32; refine (hg2.out wz hbz.out).mono ?_; rintro e w2 ⟨rfl, hb2⟩; have y0 := Lib.hid ((hb2.block w.heap.size (by omega)).trans z0.out); have y1 := Lib.hid ((hb2.block (w.heap.size + 1) (by omega)).trans z1.out); have hB2 := Lib.hid (hbz.out.trans (hb2.mono (by omega))); clear hb2) | (refine wpList_store_row rfl 23 _ _ rfl w.heap.size _ rfl rfl 23 _ y0.out (by kernel_rfl) (by simp [u32s, V8.list]) (by simp [Value.oneCell']) ?_))
      refine NoPanic.normal ?_
      go_wp2
      go_roundw
      case rel =>
        have h2 := setRow_heap w2 w.heap.size (u32s (R k).list) (u32s (R (k + 1)).list) 23 (0, 0) y0.out
        have h3 := (setRow_other w2 w.heap.size (w.heap.size + 1) (u32s (R (k + 1)).list) (by omega)).trans y1.out
        exact ⟨k + 1, by have := hm'.out; omega, by rw [show 64 * (k + 1) = m + 64 by have := hm'.out; omega]; go_num, below_setRow' hB2.out (Nat.le_refl _) _, h2, h3⟩
      case measure => have := hm'.out; simp [intOf]; omega
    · have hk' : k = n / 64 := by omega
      subst hk'
      have hRk : R (n / 64) = blocksF v l := by rw [← hR'.out, ← hn'.out]; rfl
      rw [hRk] at h0'
      clear hRk
      generalize hm : 64 * (n / 64) = m at *
      clear hm
      go_wp2_with (first | (refine wpList_load_row rfl 23 _ rfl w.heap.size rfl 23 _ _ _ h0'.out Tryd.underlying23 rfl (by kernel_rfl) ?_) | (refine wpList_store_row rfl 23 _ _ rfl (w.heap.size + 1) _ rfl rfl 23 _ h1'.out (by kernel_rfl) (by simp [u32s, V8.list]) (u32s_one _) ?_))
      try simp only [Exit.inBlock, Exit.then]
      exact bodyPost_ret (results_cell_row rfl _ _ (w.heap.size + 1) 23 _ _ _ rfl (setRow_heap _ _ _ _ _ _ h1'.out) Tryd.underlying23 rfl (by kernel_rfl)) rfl ⟨rfl, below_setRow' hb'.out (by omega) _⟩
theorem rblocks_none (v : V8) (a : Option Addr) (c : Nat) (w : World) :
    Calls Tryd.prog 24 #[.agg #[.int .u32 v.a, .int .u32 v.b, .int .u32 v.c, .int .u32 v.d, .int .u32 v.e, .int .u32 v.f, .int .u32 v.g, .int .u32 v.h], .slice a 0 c] w
     fun e w' => e = .returned (.agg v.cells) ∧ Below w.heap.size w w' := by
  go_enter Tryd.func24, Tryd.ntmps24
  go_wp2
  go_rounds 2
  try simp only [Exit.inBlock, Exit.then]
  exact bodyPost_ret (results_cell_row rfl _ _ (w.heap.size + 1) 23 _ _ _ rfl (hn2 w _ _) Tryd.underlying23 rfl (by kernel_rfl)) rfl ⟨rfl, ((Below.refl _ _).alloc (Nat.le_refl _) _).alloc (by simp) _⟩
theorem rblocks_any (v G : V8) (bv : Value) (l : List Int) (w : World) (hv : v.ok) (hl : Bytes l) (hr : RdB w bv l) (hlm : l.length ≤ 1000000) (hG : blocksF v l = G) :
    Calls Tryd.prog 24 #[.agg #[.int .u32 v.a, .int .u32 v.b, .int .u32 v.c, .int .u32 v.d, .int .u32 v.e, .int .u32 v.f, .int .u32 v.g, .int .u32 v.h], bv] w
     fun e w' => e = .returned (.agg #[.int .u32 G.a, .int .u32 G.b, .int .u32 G.c, .int .u32 G.d, .int .u32 G.e, .int .u32 G.f, .int .u32 G.g, .int .u32 G.h]) ∧ Below w.heap.size w w' := by
  subst hG
  rcases hr with ⟨a, c, rfl, hn, rfl⟩ | ⟨b, o, c, rfl, h1, h2, h3, h4⟩
  · exact rblocks_none v a c w
  · exact rblocks_some v b o c l w hv h1 h2 hl h3 hlm h4
end Go.Proofs.YtdlblhoaddfanaaDoor
namespace Go.Proofs.YtdlblhoaddfanaaDoor
open Go.RowKit Go.YtdlblhoaddfanaaDoor
set_option linter.unusedVariables false
def tailF (n : Nat) : List Int := tl (zT n) ++ [0, 0, 0, 0] ++ be4 (8 * (n : Int))
theorem tailF_length (n : Nat) : (tailF n).length = zT n + 9 := by simp [tailF, tl_length, be4]
theorem zT_lt (n : Nat) : zT n < 64 := Nat.mod_lt _ (by decide)
theorem tailF_bytes (n : Nat) (hn : n ≤ 300000) : Bytes (tailF n) := by
  unfold tailF
  refine bytes_append _ _ (bytes_append _ _ ?_ (bytes_replicate 4)) (be4_bytes _ ⟨by omega, by omega⟩)
  exact bytes_append [128] _ (bytes_one 128 (by omega)) (bytes_replicate _)
theorem tail_ending (r : List Int) (n : Nat) (h : r.length = n % 64) : r ++ tailF n = endingF r n := by
  have e : List.replicate (zT n) (0 : Int) ++ [0, 0, 0, 0] = List.replicate (endSize r.length - 4 - (r.length + 1)) 0 := by
    rw [show ([0, 0, 0, 0] : List Int) = List.replicate 4 0 from rfl, List.replicate_append_replicate]
    congr 1
    unfold zT endSize
    split <;> omega
  unfold tailF endingF tl
  rw [← e]
  simp
theorem rfirst_F (F : V8) (hF : firstW = F) (w : World) : Calls Tryd.prog 28 #[] w fun e w' => e = .returned (.agg #[.int .u32 F.a, .int .u32 F.b, .int .u32 F.c, .int .u32 F.d, .int .u32 F.e, .int .u32 F.f, .int .u32 F.g, .int .u32 F.h]) ∧ Below w.heap.size w w' := by
  subst hF; exact rfirst_any w
theorem rwritten_G (G : V8) (D : List Int) (w : World) (hG : G.ok) (hD : writtenF G = D) : Calls Tryd.prog 26 #[.agg #[.int .u32 G.a, .int .u32 G.b, .int .u32 G.c, .int .u32 G.d, .int .u32 G.e, .int .u32 G.f, .int .u32 G.g, .int .u32 G.h]] w fun e w' => e = .returned (.agg (u8s D)) ∧ Below w.heap.size w w' := by
  subst hD; exact rwritten_any G w hG
theorem rtail_F (n : Nat) (w : World) (hn : n ≤ 300000) : Calls Tryd.prog 27 #[.int .i64 (n : Int)] w fun e w' => ∃ ta tc, e = .returned (.slice ta (zT n + 9) tc) ∧ RdB w' (.slice ta (zT n + 9) tc) (tailF n) ∧ Below w.heap.size w w' := by
  refine (rtail_any n w hn).mono ?_
  rintro e w' ⟨r, rfl, ho, hb⟩
  have h := show RdB w' r (tailF n) from ho.rd
  obtain ⟨ta, tc, rfl⟩ := h.slice
  rw [tailF_length] at h ⊢
  exact ⟨ta, tc, rfl, h, hb⟩
theorem own0 (w : World) : OwnB w.heap.size 5 (w.alloc (.cells #[] 5)) (.slice (some ⟨w.heap.size, 0, none⟩) 0 0) [] :=
  ⟨rfl, .inr ⟨w.heap.size, 0, _, rfl, Nat.le_refl _, heap_alloc_new w _, Nat.le_refl _, by decide, rfl, rfl⟩⟩
set_option maxRecDepth 100000 in
set_option maxHeartbeats 1000000 in
theorem rof_any (bv : Value) (l D : List Int) (w : World) (hr : RdB w bv l) (hl : Bytes l) (hlm : l.length ≤ 200000) (hD : shaF l = D) :
    Calls Tryd.prog 29 #[bv] w fun e w' => e = .returned (.agg (u8s D)) ∧ Below w.heap.size w w' := by
  obtain ⟨ba, bc, rfl⟩ := hr.slice
  obtain ⟨F, hF⟩ : ∃ F, firstW = F := ⟨_, rfl⟩
  obtain ⟨G, hG⟩ : ∃ G, blocksF F (l ++ tailF l.length) = G := ⟨_, rfl⟩
  have hDl : D.length = 32 := by rw [← hD]; exact shaF_length l
  have hFok : F.ok := by rw [← hF]; exact firstW_ok
  have hGok : G.ok := by rw [← hG]; exact blocksF_ok _ _ hFok
  have hw : writtenF G = D := by
    rw [← hD, ← hG, blocksF_append, tail_ending _ _ (restF_length l), ← hF]; rfl
  have hi := Lib.hid (show (Tryd.prog.info? 33).map (·.size) = some (u8s D).size from by rw [u8s_size, hDl]; kernel_rfl)
  have hs := Lib.hid (show (u8s (zerosB 32)).size = (u8s D).size from by rw [u8s_size, u8s_size, hDl, zerosB_length])
  have hF' := Lib.hid hF; have hG' := Lib.hid hG; have hFok' := Lib.hid hFok; have hGok' := Lib.hid hGok; have hw' := Lib.hid hw; have hr' := Lib.hid hr; have hl' := Lib.hid hl
  have hll : Hid ((l ++ tailF l.length).length ≤ 1000000) := Lib.hid (by have := zT_lt l.length; rw [List.length_append, tailF_length]; omega)
  have htl := tailF_length l.length
  have hzt := zT_lt l.length
  have htl' := Lib.hid htl
  clear hF hG hDl hFok hGok hw hr hD hl htl
  generalize hn : l.length = n at *
  have hn' := Lib.hid hn; clear hn
  go_enter Tryd.func29, Tryd.ntmps29
  go_wp2_with (go_at_call 28; refine (rfirst_F F hF'.out _).mono ?_; rintro e w1 ⟨rfl, hb1⟩; have hb1' := Lib.hid hb1; clear hb1; refine Stop.go'' _ ?_)
  refine StopP.go ?_
  have hB1 := Lib.hid (show Below w.heap.size w w1 from ((Below.refl _ _).alloc (Nat.le_refl _) _).trans (hb1'.out.mono (by simp)))
  have k1 := Lib.hid (show w1.heap[w.heap.size]? = some (.cells (u8s (zerosB 32)) 33 (0, 0)) from (hb1'.out.block w.heap.size (by simp)).trans (heap_alloc_new w _))
  have hz1 : w.heap.size < w1.heap.size := (Array.getElem?_eq_some_iff.1 k1.out).1
  have r1 := Lib.hid ((hr'.out.mono hB1.out).mono ((Below.refl w1.heap.size w1).alloc (Nat.le_refl _) (.cells #[] 5)))
  clear hb1'
  go_wp2_with (refine appendB rfl _ _ 24 rfl w1.heap.size 5 Tryd.underlying24 (by kernel_rfl) _ rfl _ (own0 w1) _ rfl _ r1.out (by rw [hn'.out]; simp; omega) (by simp) ?_)
  intro v' w' h1 h2
  have hB2 := (own0 w1).below h2 (by simp)
  try rw [List.nil_append] at h1
  obtain ⟨pa, pc, rfl⟩ := h1.rd.slice
  rw [hn'.out] at h1 ⊢
  have h1' := Lib.hid h1
  have hB2' := Lib.hid (((Below.refl w1.heap.size w1).alloc (Nat.le_refl _) (.cells #[] 5)).trans hB2)
  clear h1 h2 hB2 r1
  have hz2 := hB2'.out.size
  refine Stop.go ?_
  go_wp2_with (go_at_call 27; refine (rtail_F n _ (by omega)).mono ?_; rintro e w3 ⟨ta, tc, rfl, ho4, hb3⟩; have ho4 := Lib.hid ho4; have hb3' := Lib.hid hb3; clear hb3; refine Stop.go'' _ ?_)
  refine StopP.go ?_
  have hz3 := hb3'.out.size
  have q1 := Lib.hid (h1'.out.kept hb3'.out)
  have hB3 := Lib.hid (hB2'.out.trans (hb3'.out.mono hz2))
  clear h1' hB2' hb3'
  go_wp2_with (refine appendB rfl _ _ 24 rfl w1.heap.size 5 Tryd.underlying24 (by kernel_rfl) _ rfl _ q1.out _ rfl _ ho4.out (by rw [hn'.out, htl'.out]; omega) (by omega) ?_)
  intro v' w4 h1 h2
  have hB4 := Lib.hid (hB3.out.trans (q1.out.below h2 (by omega)))
  have hrd := Lib.hid h1.rd
  have hz4 := hB4.out.size
  have k4 := Lib.hid ((hB4.out.block w.heap.size hz1).trans k1.out)
  have hB5 := Lib.hid (hB1.out.trans (hB4.out.mono (by omega)))
  obtain ⟨qa, qc, rfl⟩ := h1.rd.slice
  clear h1 h2 q1 ho4 hB3 k1 hB1
  have hlb := Lib.hid (bytes_append _ _ hl'.out (tailF_bytes n (by omega)))
  have hz5 : w.heap.size < w4.heap.size := by omega
  generalize hN : (l ++ tailF n).length = N at *
  have hN' := Lib.hid hN
  clear hN
  clear hzt hz1 hz2 hz3 hz4
  refine Stop.go ?_
  go_wp2_with (first | (go_at_call 24; refine (rblocks_any F G _ (l ++ tailF n) w4 hFok'.out hlb.out hrd.out (by rw [hN'.out]; exact hll.out) hG'.out).mono ?_; rintro e w5 ⟨rfl, hb5⟩; have k5 := Lib.hid ((hb5.block w.heap.size hz5).trans k4.out); have hB6 := Lib.hid (hB5.out.trans (hb5.mono (by omega))); have hz6 := hb5.size; clear hb5) | (go_at_call 26; refine (rwritten_G G D _ hGok'.out hw'.out).mono ?_; rintro e w6 ⟨rfl, hb6⟩; have k6 := Lib.hid ((hb6.block w.heap.size (by omega)).trans k5.out); have hB7 := Lib.hid (hB6.out.trans (hb6.mono (by omega))); clear hb6) | (refine wpList_store_row rfl 33 _ _ rfl w.heap.size _ rfl rfl 33 _ k6.out hi.out hs.out (u8s_one _) ?_))
  try simp only [Exit.inBlock, Exit.then]
  exact bodyPost_ret (results_cell_row rfl _ _ w.heap.size 33 _ _ _ rfl (setRow_heap _ _ _ _ _ _ k6.out) Tryd.underlying33 rfl hi.out) rfl ⟨rfl, below_setRow' hB7.out (Nat.le_refl _) _⟩
end Go.Proofs.YtdlblhoaddfanaaDoor
namespace Go.Proofs.YtdlblhoaddfanaaDoor
open Go.RowKit Go.YtdlblhoaddfanaaDoor
set_option linter.unusedVariables false
set_option maxRecDepth 100000 in
set_option maxHeartbeats 400000 in
theorem rsum_ok (D : List Int) (bv : Value) (l : List Int) (w : World) (hl : RdB w bv l) (hlb : Bytes l) (hlen : l.length ≤ 10000) (hD : shaF l = D) :
    Calls Tryd.prog 16 #[bv] w
     fun e w' => e = .returned (.tuple #[.agg (u8s D), .int .i64 0]) ∧ Below w.heap.size w w' := by
  obtain ⟨a, c, rfl⟩ := hl.slice
  have hof := Lib.hid (fun (wi : World) (hb : Below w.heap.size w wi) => rof_any (.slice a l.length c) l D wi (hl.mono hb) hlb (by omega) hD)
  have hDl : D.length = 32 := by rw [← hD]; exact shaF_length l
  have hi := Lib.hid (show (Tryd.prog.info? 33).map (·.size) = some (u8s D).size from by rw [u8s_size, hDl]; kernel_rfl)
  have hs := Lib.hid (show (u8s (zerosB 32)).size = (u8s D).size from by rw [u8s_size, u8s_size, hDl, zerosB_length])
  clear hDl hD hl hlb
  generalize l.length = n at *
  go_enter Tryd.func16, Tryd.ntmps16
  go_wp2_with (first | (go_at_call 29; refine (hof.out _ ((Below.refl _ _).alloc (Nat.le_refl _) _)).mono ?_; rintro e w1 ⟨rfl, hb1⟩; have k1 := Lib.hid (show w1.heap[w.heap.size]? = some (.cells (u8s (zerosB 32)) 33 (0, 0)) from (hb1.block _ (by simp)).trans (heap_alloc_new w _)); have hB1 := Lib.hid (((Below.refl _ _).alloc (Nat.le_refl _) _).trans (hb1.mono (by simp))); clear hb1) | (refine wpList_store_row rfl 33 _ _ rfl w.heap.size (u8s D) rfl rfl 33 _ k1.out hi.out hs.out (u8s_one _) ?_))
  try simp only [Exit.inBlock, Exit.then]
  exact bodyPost_ret (results_row_tmp rfl _ _ w.heap.size 33 _ _ _ rfl (setRow_heap _ _ _ _ _ _ k1.out) Tryd.underlying33 rfl hi.out) rfl ⟨rfl, below_setRow' (g := w.heap.size) hB1.out (Nat.le_refl _) _⟩
theorem rsum_many (a : Option Addr) (n c : Nat) (w : World) (hn : 10000 < n) :
    Calls Tryd.prog 16 #[.slice a n c] w
     fun e w' => e = .returned (.tuple #[.agg (u8s (zerosB 32)), .int .i64 4]) ∧ Below w.heap.size w w' := by
  have k1 := Lib.hid (show (w.alloc (.cells (u8s (zerosB 32)) 33)).heap[w.heap.size]? = some (.cells (u8s (zerosB 32)) 33 (0, 0)) from heap_alloc_new w _)
  go_enter Tryd.func16, Tryd.ntmps16
  go_wp2_with (refine wpList_store_row rfl 33 _ _ rfl w.heap.size (u8s (zerosB 32)) rfl rfl 33 _ k1.out info_id rfl (u8s_one _) ?_)
  try simp only [Exit.inBlock, Exit.then]
  exact bodyPost_ret (results_row_tmp rfl _ _ w.heap.size 33 _ _ _ rfl (setRow_heap _ _ _ _ _ _ k1.out) Tryd.underlying33 rfl info_id) rfl ⟨rfl, below_setRow' (g := w.heap.size) ((Below.refl _ _).alloc (Nat.le_refl _) _) (Nat.le_refl _) _⟩
end Go.Proofs.YtdlblhoaddfanaaDoor

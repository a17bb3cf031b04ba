/- Texts that the row stands on, part 4. -/
import Derived.Test.YtlbgffhipondiaaGreatDoorRClosedGq03
import Derived.Lib.SlBytesConst
namespace Go.Proofs.YtlbgffhipondiaaGreatDoor
open Go.RowKit Go.YtlbgffhipondiaaGreatDoor
set_option linter.unusedVariables false
variable {Tg Tf : TypeId}
set_option maxRecDepth 100000 in
set_option maxHeartbeats 2000000 in
theorem pieces_some (b o c : Nat) (L : List (List Int)) (w : World) (hLc : L.length ≤ c) (hcm : c ≤ maxLen) (hbw : b < w.heap.size) (hcell : ∀ i, i < L.length → ∃ s, w.cell? ⟨b, o + i, none⟩ = some s ∧ RdB w s (nthL L i))
   (hn : L.length ≤ 20) (hlen : ∀ i, (nthL L i).length ≤ 10000) (hby : ∀ i, Bytes (nthL L i))
   (hg : w.heap[2]? = some (.cells (u32s constW) Tg (0, 0))) (hgf : w.heap[0]? = some (.cells firstW.cells Tf (0, 0))) :
    Calls Tryz.prog 114 #[.slice (some ⟨b, o, none⟩) L.length c] w
     fun e w' => e = .returned (.tuple #[.agg (u8s (endF (blocksF firstW (flatN L L.length)) (restF (flatN L L.length)) (flatN L L.length).length)), .int .i64 0]) ∧ Below w.heap.size w w' := by
  unfold maxLen at hcm
  have hcell' := Lib.hid hcell; have hlen' := Lib.hid hlen; have hby' := Lib.hid hby; have hg' := Lib.hid hg; have hgf' := Lib.hid hgf
  clear hcell hlen hby hg hgf
  have hlt : 2 < w.heap.size := (Array.getElem?_eq_some_iff.1 hg'.out).1
  have hltf : 0 < w.heap.size := (Array.getElem?_eq_some_iff.1 hgf'.out).1
  generalize hm : L.length = n at *
  have hm' := Lib.hid hm; clear hm
  go_enter Tryz.func114, Tryz.ntmps114
  go_wp2
  generalize hWx : w.alloc (Obj.cells _ 24) = Wx
  have hWb : Below w.heap.size w Wx := by rw [← hWx]; exact (Below.refl _ _).alloc (Nat.le_refl _) _
  have hWz : Wx.heap.size = w.heap.size + 1 := by rw [← hWx]; simp
  have hW0 : Wx.heap[w.heap.size]? = some (.cells (u8s (zerosB 32)) 24 (0, 0)) := by rw [← hWx]; exact heap_alloc_new w _
  have hWz' := Lib.hid hWz; have hW0' := Lib.hid hW0
  clear hWx hWz hW0
  go_loop [5, 15] (fun _ i => ∃ k : Nat, k ≤ n ∧ i = .int .i64 k) (fun _ i => n - (intOf i).toNat)
  case atStart => exact ⟨0, by omega, rfl⟩
  case round =>
    obtain ⟨k, hk, rfl⟩ := hrel
    by_cases hlt' : k < n
    · obtain ⟨s, hs, hrs⟩ := hcell'.out k hlt'
      obtain ⟨sa, sc, rfl⟩ := hrs.slice
      have hs1 := (hWb.cell (p := (⟨b, o + k, none⟩ : Addr)) hbw).trans hs
      have hle := hlen'.out k
      go_wp2
      go_round
      case rel => exact ⟨k + 1, by omega, by go_num⟩
      case measure => simp [intOf]; omega
    · have hkn : k = n := by omega
      subst hkn
      clear hcm
      go_upto_region 10 with (go_at_call 155; refine (start_any (Tf := Tf) _ ?_).mono ?_; (exact (hWb.block _ hltf).trans hgf'.out); rintro e w1 ⟨rfl, hb1⟩; have hb1' := Lib.hid hb1; clear hb1)
      have hz1 : w.heap.size < w1.heap.size := by have := hb1'.out.size; have := hWz'.out; omega
      have hB1 : Below (w.heap.size + 1) Wx w1 := hb1'.out.mono (by have := hWz'.out; omega)
      have hB1' := Lib.hid hB1; clear hB1
      go_wp2
      go_loopw [8, 27] (fun _ i wr => ∃ j : Nat, j ≤ k ∧ i = .int .i64 j ∧ Below (w.heap.size + 1) Wx wr ∧ w1.heap.size < wr.heap.size ∧ ∃ rv, wr.heap[w1.heap.size]? = some (.cells #[.int .u32 (blocksF firstW (flatN L j)).a, .int .u32 (blocksF firstW (flatN L j)).b, .int .u32 (blocksF firstW (flatN L j)).c, .int .u32 (blocksF firstW (flatN L j)).d, .int .u32 (blocksF firstW (flatN L j)).e, .int .u32 (blocksF firstW (flatN L j)).f, .int .u32 (blocksF firstW (flatN L j)).g, .int .u32 (blocksF firstW (flatN L j)).h, rv, .int .i64 ((flatN L j).length : Nat)] 180 (0, 0)) ∧ RdB wr rv (restF (flatN L j))) (fun _ i _ => k - (intOf i).toNat)
      case atStart => exact ⟨0, by omega, rfl, hB1'.out.alloc (by omega) _, by simp, .slice none 0 0, by rw [show blocksF firstW (flatN L 0) = firstW from blocksF_small _ _ (by simp [flatN]), show (flatN L 0).length = 0 from rfl]; exact heap_alloc_new w1 _, .inl ⟨none, 0, rfl, fun _ => rfl, by simp [flatN, restF]⟩⟩
      case round =>
        obtain ⟨j, hj, rfl, hbr, hzr, rv, hrow, hrd⟩ := hrel
        have hrow' := Lib.hid hrow; have hrd' := Lib.hid hrd; clear hrow hrd
        have hbw' : Below w.heap.size w wr := hWb.trans (hbr.mono (by omega))
        by_cases hlt' : j < k
        · obtain ⟨s, hs, hrs⟩ := hcell'.out j hlt'
          obtain ⟨sa, sc, rfl⟩ := hrs.slice
          have hs1 := (hbw'.cell (p := (⟨b, o + j, none⟩ : Addr)) hbw).trans hs
          have hrs' := Lib.hid (hrs.mono hbw')
          have hgr := Lib.hid ((hbw'.block _ hlt).trans hg'.out)
          have hfl := flatN_length L hlen'.out j
          have hll := hlen'.out j
          have hN : Hid ((flatN L j).length + (nthL L j).length ≤ 200000) := Lib.hid (by omega)
          have hrl : Hid ((restF (flatN L j)).length < 64) := Lib.hid (by rw [restF_length]; exact Nat.mod_lt _ (by decide))
          have hG : Hid (blocksF (blocksF firstW (flatN L j)) (restF (flatN L j) ++ nthL L j) = blocksF firstW (flatN L (j + 1))) := Lib.hid (blocksF_append _ _ _).symm
          clear hs hrs hfl hll
          go_wp2_with (first | (refine wpList_load_row rfl 180 _ rfl w1.heap.size rfl 180 _ _ _ hrow'.out Tryz.underlying180 rfl (by kernel_rfl) ?_) | (go_at_call 156; refine (put_any (Tg := Tg) (blocksF firstW (flatN L j)) (blocksF firstW (flatN L (j + 1))) rv (restF (flatN L j)) (flatN L j).length (.slice sa (nthL L j).length sc) (nthL L j) _ (blocksF_ok _ _ firstW_ok) hrd'.out hrs'.out (bytes_drop _ _ (flatN_bytes L hby'.out j)) (hby'.out j) hrl.out hN.out hG.out hgr.out).mono ?_; rintro e w2 ⟨r', rfl, ho2, hb2⟩; obtain ⟨pa, pc, rfl⟩ := ho2.rd.slice; have ho2' := Lib.hid ho2; have hb2' := Lib.hid hb2; have hrow2 := Lib.hid ((hb2.block _ hzr).trans hrow'.out); clear ho2 hb2) | (refine wpList_store_row rfl 180 _ _ rfl w1.heap.size _ rfl rfl 180 _ hrow2.out (by kernel_rfl) (by simp) (by simp [Value.oneCell']) ?_))
          go_roundw
          case rel =>
            have hB2 : Below (w.heap.size + 1) Wx w2 := hbr.trans (hb2'.out.mono (by omega))
            have hz2 := hb2'.out.size
            have hrest : restF (restF (flatN L j) ++ nthL L j) = restF (flatN L (j + 1)) := (restF_append _ _).symm
            have ho3 := ho2'.out
            rw [hrest] at ho3
            refine ⟨j + 1, by omega, by go_num, below_setRow' (g := w1.heap.size) hB2 (by omega) _, by rw [size_setRow]; omega, .slice pa (restF (restF (flatN L j) ++ nthL L j)).length pc, ?_, ?_⟩
            · have hl : (((flatN L (j + 1)).length : Nat) : Int) = (flatN L j).length + (nthL L j).length := by rw [flatN, List.length_append]; exact Int.natCast_add _ _
              rw [hl]
              exact setRow_heap _ _ _ _ _ _ hrow2.out
            · rw [hrest]
              exact (ownB_setRow (g := w1.heap.size) ho3 (Nat.le_refl _) hzr _).rd
          case measure => simp [intOf]; omega
        · have hjk : j = k := by omega
          subst hjk
          have hfl := flatN_length L hlen'.out j
          have hN : Hid ((flatN L j).length ≤ 200000) := Lib.hid (by omega)
          have hrl : Hid ((restF (flatN L j)).length < 64) := Lib.hid (by rw [restF_length]; exact Nat.mod_lt _ (by decide))
          have hFb := Lib.hid (flatN_bytes L hby'.out j)
          have hgr := Lib.hid ((hbw'.block _ hlt).trans hg'.out)
          have hres := Lib.hid ((hbr.block w.heap.size (by omega)).trans hW0'.out)
          clear hfl
          have hlen32 : (endF (blocksF firstW (flatN L j)) (restF (flatN L j)) (flatN L j).length).length = 32 := writtenN_length _ 8
          have hi : (Tryz.prog.info? 24).map (·.size) = some (u8s (endF (blocksF firstW (flatN L j)) (restF (flatN L j)) (flatN L j).length)).size := by rw [u8s_size, hlen32]; kernel_rfl
          have hs2 : (u8s (zerosB 32)).size = (u8s (endF (blocksF firstW (flatN L j)) (restF (flatN L j)) (flatN L j).length)).size := by rw [u8s_size, u8s_size, hlen32, zerosB_length]
          have hi' := Lib.hid hi; have hs2' := Lib.hid hs2
          clear hi hs2 hlen32
          go_wp2_with (first | (refine wpList_load_row rfl 180 _ rfl w1.heap.size rfl 180 _ _ _ hrow'.out Tryz.underlying180 rfl (by kernel_rfl) ?_) | (go_at_call 157; refine (finish_any (Tg := Tg) (blocksF firstW (flatN L j)) _ rv (restF (flatN L j)) (flatN L j).length _ (blocksF_ok _ _ firstW_ok) hrd'.out (bytes_drop _ _ hFb.out) hrl.out hN.out rfl hgr.out).mono ?_; rintro e w2 ⟨rfl, hb2⟩; have hrow2' := Lib.hid ((hb2.block _ (by omega)).trans hres.out); have hB2' := Lib.hid (hbw'.trans (hb2.mono (by omega))); clear hb2) | (refine wpList_store_row rfl 24 _ _ rfl w.heap.size (u8s (endF (blocksF firstW (flatN L j)) (restF (flatN L j)) (flatN L j).length)) rfl rfl 24 _ hrow2'.out hi'.out hs2'.out (u8s_one _) ?_))
          try simp only [Exit.inBlock, Exit.then]
          exact bodyPost_ret (results_row_tmp rfl _ _ w.heap.size 24 _ _ _ rfl (setRow_heap _ _ _ _ _ _ hrow2'.out) Tryz.underlying24 rfl hi'.out) rfl ⟨rfl, below_setRow' (g := w.heap.size) hB2'.out (Nat.le_refl _) _⟩
end Go.Proofs.YtlbgffhipondiaaGreatDoor
namespace Go.Proofs.YtlbgffhipondiaaGreatDoor
open Go.RowKit Go.YtlbgffhipondiaaGreatDoor
set_option linter.unusedVariables false
variable {Tg Tf : TypeId}
theorem pieces_any (L : List (List Int)) (v : Value) (b o c : Nat) (hv : v = .slice (some ⟨b, o, none⟩) L.length c) (w : World) (hLc : L.length ≤ c) (hcm : c ≤ maxLen) (hbw : b < w.heap.size) (hcell : ∀ i, i < L.length → ∃ s, w.cell? ⟨b, o + i, none⟩ = some s ∧ RdB w s (nthL L i))
   (hn : L.length ≤ 20) (hlen : ∀ i, (nthL L i).length ≤ 10000) (hby : ∀ i, Bytes (nthL L i))
   (hg : w.heap[2]? = some (.cells (u32s constW) Tg (0, 0))) (hgf : w.heap[0]? = some (.cells firstW.cells Tf (0, 0))) :
    Calls Tryz.prog 114 #[v] w
     fun e w' => e = .returned (.tuple #[.agg (u8s (shaF L.flatten)), .int .i64 0]) ∧ Below w.heap.size w w' := by
  subst hv
  have h := pieces_some (Tg := Tg) (Tf := Tf) b o c L w hLc hcm hbw hcell hn hlen hby hg hgf
  rw [flatN_all] at h
  exact h
set_option maxRecDepth 100000 in
set_option maxHeartbeats 400000 in
theorem sum_any (D : List Int) (bv : Value) (l : List Int) (w : World) (hl : RdB w bv l) (hlb : Bytes l) (hlen : l.length ≤ 10000) (hD : shaF l = D)
   (hg : w.heap[2]? = some (.cells (u32s constW) Tg (0, 0))) (hgf : w.heap[0]? = some (.cells firstW.cells Tf (0, 0))) :
    Calls Tryz.prog 65 #[bv] w
     fun e w' => e = .returned (.tuple #[.agg (u8s D), .int .i64 0]) ∧ Below w.heap.size w w' := by
  obtain ⟨a, c, rfl⟩ := hl.slice
  have hlt : 2 < w.heap.size := (Array.getElem?_eq_some_iff.1 hg).1
  have hltf : 0 < w.heap.size := (Array.getElem?_eq_some_iff.1 hgf).1
  have hp : ∀ o1, Calls Tryz.prog 114 #[.slice (some ⟨w.heap.size + 1, 0, none⟩) 1 1] ((w.alloc o1).alloc (.cells #[.slice a l.length c] 101))
     fun e w' => e = .returned (.tuple #[.agg (u8s D), .int .i64 0]) ∧ Below ((w.alloc o1).alloc (.cells #[.slice a l.length c] 101)).heap.size ((w.alloc o1).alloc (.cells #[.slice a l.length c] 101)) w' := by
    intro o1
    have hB : Below w.heap.size w ((w.alloc o1).alloc (.cells #[.slice a l.length c] 101)) := ((Below.refl _ _).alloc (Nat.le_refl _) _).alloc (by simp) _
    have h := pieces_any (Tg := Tg) (Tf := Tf) [l] (.slice (some ⟨w.heap.size + 1, 0, none⟩) 1 1) (w.heap.size + 1) 0 1 rfl ((w.alloc o1).alloc (.cells #[.slice a l.length c] 101)) (Nat.le_refl _) (by decide) (by simp) (fun i hi => by
      have h0 : i = 0 := by simp at hi; exact hi
      subst h0
      exact ⟨_, cell_of_row _ _ _ _ _ _ (hn2 w _ _), hl.mono hB⟩) (by simp) (fun i => by
      cases i with
      | zero => exact hlen
      | succ i => simp [nthL]) (fun i => by
      cases i with
      | zero => exact hlb
      | succ i => intro j; simp [nthL, ith]) ((hB.block _ hlt).trans hg) ((hB.block _ hltf).trans hgf)
    rw [show ([l] : List (List Int)).flatten = l by simp, hD] at h
    exact h
  have hDl : D.length = 32 := by rw [← hD]; exact shaF_length l
  have hi : (Tryz.prog.info? 24).map (·.size) = some (u8s D).size := by rw [u8s_size, hDl]; kernel_rfl
  have hs2 : (u8s (zerosB 32)).size = (u8s D).size := by rw [u8s_size, u8s_size, hDl, zerosB_length]
  have hp' := Lib.hid hp; have hi' := Lib.hid hi; have hs2' := Lib.hid hs2
  clear hp hi hs2 hDl hD hl hlb hlen hg hgf
  go_enter Tryz.func65, Tryz.ntmps65
  go_wp2_with (first | (go_at_call 114; refine (hp'.out _).mono ?_; rintro e w1 ⟨rfl, hb1⟩; have hrow := Lib.hid (show w1.heap[w.heap.size]? = some (.cells (u8s (zerosB 32)) 24 (0, 0)) from (hb1.block _ (by simp; omega)).trans ((hp1 _ _ _ (by simp)).trans (heap_alloc_new w _))); have hB1 := Lib.hid ((((Below.refl _ _).alloc (Nat.le_refl _) _).alloc (by simp) _).trans (hb1.mono (by simp; omega))); clear hb1) | (refine wpList_store_row rfl 24 _ _ rfl w.heap.size (u8s D) rfl rfl 24 _ hrow.out hi'.out hs2'.out (u8s_one _) ?_))
  try simp only [Exit.inBlock, Exit.then]
  exact bodyPost_ret (results_row_tmp rfl _ _ w.heap.size 24 _ _ _ rfl (setRow_heap _ _ _ _ _ _ hrow.out) Tryz.underlying24 rfl hi'.out) rfl ⟨rfl, below_setRow' (g := w.heap.size) hB1.out (Nat.le_refl _) _⟩
end Go.Proofs.YtlbgffhipondiaaGreatDoor
namespace Go.Proofs.YtlbgffhipondiaaGreatDoor
open Go.RowKit Go.YtlbgffhipondiaaGreatDoor
set_option linter.unusedVariables false
variable {Tg Tf : TypeId}
theorem storeNew {P : Program} {ops : Array Oper} {rest : List Oper} {o : Oper} {a : Act} {Q : Exit → Act → World → Prop} {old : Array Value} (w1 : World) (hgd : o.guard = none) (ty : TypeId) (x y : Operand) (ho : o.op = .store ty x y)
    (cells : Array Value) (t : TypeId) (hx : a.eval x = .pointer (some ⟨w1.heap.size, 0, none⟩)) (hy : a.eval y = .agg cells)
    (hi : (P.info? ty).map (·.size) = some cells.size) (hold : old.size = cells.size) (h1 : cells.all (·.oneCell') = true)
    (h : ∀ wx, wx.heap[w1.heap.size]? = some (.cells cells t (0, 0)) → Below w1.heap.size w1 wx → wpList P ops Q rest (a.put o.dst undef) wx) :
    wpList P ops Q (o :: rest) a (w1.alloc (.cells old t)) := by
  have hg := heap_alloc_new w1 (.cells old t)
  refine wpList_store_row hgd ty x y ho w1.heap.size cells hx hy t old hg hi hold h1 (h _ (setRow_heap _ _ _ _ _ _ hg) ?_)
  exact below_setRow' ((Below.refl _ _).alloc (Nat.le_refl _) _) (Nat.le_refl _) _
theorem Stop.go' (p : Prop) (h : Stop p) : p := h
end Go.Proofs.YtlbgffhipondiaaGreatDoor
namespace Go.Proofs.YtlbgffhipondiaaGreatDoor
open Go.RowKit Go.YtlbgffhipondiaaGreatDoor
set_option linter.unusedVariables false
variable {Tg Tf : TypeId}
theorem rd_rowM {w : World} {g : Nat} {cs : List Int} {E : TypeId} {m : Nat × Nat} (hg : w.heap[g]? = some (.cells (u8s cs) E m)) (n c : Nat) (hn : cs.length = n) (hc : n ≤ c) (hm : c ≤ maxLen) :
    RdB w (.slice (some ⟨g, 0, none⟩) n c) cs :=
  .inr ⟨g, 0, c, by rw [hn], by omega, hm, (Array.getElem?_eq_some_iff.1 hg).1, fun i hi => by rw [Nat.zero_add, cell_of_row _ _ _ _ _ _ hg]; exact u8s_get _ _ hi⟩
def StopP (p : Prop) : Prop := p
theorem Stop.go'' (p : Prop) (h : StopP p) : p := h
theorem StopP.go {p : Prop} (h : p) : StopP p := h
end Go.Proofs.YtlbgffhipondiaaGreatDoor
namespace Go.Proofs.YtlbgffhipondiaaGreatDoor.wir.val
open Go.RowKit Go.YtlbgffhipondiaaGreatDoor
set_option linter.unusedVariables false
theorem rtext4_any (sv : Value) (l : List Int) (w : World) (hr : RdB w sv l) (hl : l.length ≤ 10000) :
    Calls Tryz.prog 214 #[sv] w fun e w' => ∃ r, e = .returned r ∧ OwnB w.heap.size 5 w' r (textB l) ∧ Below w.heap.size w w' := by
  have hnum := Lib.hid (rnum_any l.length (by omega) w)
  have hL9 := numL_le l.length (by omega)
  have hnl := Lib.hid (numB_length l.length)
  have htb := Lib.hid (show numB l.length ++ l = textB l from rfl)
  have hrm := Lib.hid (fun wi (hw : Below w.heap.size w wi) => hr.mono hw)
  obtain ⟨n, hn⟩ : ∃ n, l.length = n := ⟨_, rfl⟩
  have hn' := Lib.hid hn
  obtain ⟨a, c, rfl⟩ := hr.slice
  rw [hn] at hnum hL9 hnl htb hl hrm ⊢
  clear hr hn
  generalize numB n = B at *
  generalize numL n = L at *
  go_enter Tryz.func214, Tryz.ntmps214
  go_wp2_with (first | (go_at_call 184; (with_reducible refine (hnum.out).mono ?_); rintro e w1 ⟨r, rfl, ho, hb⟩; have ho' := Lib.hid ho; have hb' := Lib.hid hb; have rd := Lib.hid (hrm.out _ hb); clear ho hb) | (refine appendB rfl _ _ 101 rfl w.heap.size 5 Tryz.underlying101 (by kernel_rfl) _ rfl B ho'.out _ rfl l rd.out (by rw [hnl.out, hn'.out]; omega) hb'.out.size ?_; intro v' w' h1 h2; have hB := Lib.hid (hb'.out.trans (ho'.out.below h2 hb'.out.size)); rw [htb.out] at h1; have h1' := Lib.hid h1; clear h1 h2; refine Stop.go ?_))
  go_ret
  exact ⟨_, rfl, h1'.out, hB.out⟩
set_option maxHeartbeats 2000000 in
set_option maxRecDepth 100000 in
theorem rBytes_num (n : Int) (b : Nat) (s : ByteArray) (hn : -9223372036854775808 ≤ n ∧ n ≤ 9223372036854775807) (w : World) :
    Calls Tryz.prog 215 #[vA 1 n b s] w fun e w' => ∃ sv, e = .returned sv ∧ OwnB w.heap.size 5 w' sv (encB 1 n b s) ∧ Below w.heap.size w w' := by
  have hS := Lib.hid (fun w => rsigned4_any n hn.1 hn.2 w)
  have hlen := Lib.hid (show (numB (foldN n)).length ≤ 9 by rw [numB_length]; exact numL_le _ (fold_lt n hn))
  have e := Lib.hid (show encB 1 n b s = [1] ++ numB (foldN n) from rfl)
  generalize encB 1 n b s = EB at *
  generalize numB (foldN n) = NB at *
  obtain ⟨W1, hW1⟩ : ∃ W, W = w.alloc (.cells (vC 1 n b s) 29) := ⟨_, rfl⟩
  have hp := Lib.hid (show W1.heap[w.heap.size]? = some (.cells (vC 1 n b s) 29 (0, 0)) by rw [hW1]; exact heap_alloc_new w _)
  have hB := Lib.hid (show Below w.heap.size w W1 by rw [hW1]; exact below_a w _)
  obtain ⟨c0, c1, c2, c3⟩ := cellsV hp.out
  have bA := below_a W1 (.cells #[.int .u8 1] 5)
  have ho := Lib.hid (ownB_row (cs := [1]) (heap_alloc_new W1 (.cells #[.int .u8 1] 5)) 1 rfl (by decide) hB.out.size)
  have hp2 := rowB hp.out bA (Array.getElem?_eq_some_iff.1 hp.out).1
  obtain ⟨d0, d1, d2, d3⟩ := cellsV hp2
  have hB2 := Lib.hid (hB.out.trans (bA.mono hB.out.size))
  clear hn hp2 bA
  go_enter Tryz.func215, Tryz.ntmps215
  go_upto_region 1 with fail
  rw [← hW1]
  clear hW1
  go_wp2_with (go_at_call 239; (with_reducible refine (hS.out _).mono ?_); rintro e w2 ⟨r, rfl, h2, h3⟩; have hr2 := Lib.hid h2.rd; have ho2 := Lib.hid (ho.out.kept h3); have hB3 := Lib.hid (hB2.out.trans (h3.mono hB2.out.size)); clear h2 h3 d0 d1 d2 d3 c0 c1 c2 c3; refine Stop.go'' _ ?_)
  refine StopP.go ?_
  go_wp2_with (refine appendB rfl _ _ 101 rfl w.heap.size 5 Tryz.underlying101 (by kernel_rfl) _ rfl [1] ho2.out _ rfl NB hr2.out (by have := hlen.out; simp; omega) hB3.out.size ?_)
  intro v' w3 h4 h5
  have h4' := Lib.hid h4
  have h5' := Lib.hid (hB3.out.trans (ho2.out.below h5 hB3.out.size))
  clear h4 h5
  refine Stop.go ?_
  go_wp2
  go_ret
  exact ⟨_, rfl, by rw [e.out]; exact h4'.out, h5'.out⟩
set_option maxHeartbeats 4000000 in
set_option maxRecDepth 100000 in
theorem rBytes_flt (n : Int) (b : Nat) (s : ByteArray) (hb : b < 18446744073709551616) (w : World) :
    Calls Tryz.prog 215 #[vA 2 n b s] w fun e w' => ∃ sv, e = .returned sv ∧ OwnB w.heap.size 5 w' sv (encB 2 n b s) ∧ Below w.heap.size w w' := by
  have e := Lib.hid (show encB 2 n b s = [2] ++ be 8 b from rfl)
  have hE := Lib.hid (ith_be8 b)
  have hT := Lib.hid (fun j (h : j < 8) => take_succ_ith (be 8 b) j (by rw [be_length]; exact h))
  have hA := Lib.hid (show (be 8 b).take 8 = be 8 b from List.take_of_length_le (by rw [be_length]; exact Nat.le_refl _))
  have hL := Lib.hid (fun j (h : j ≤ 8) => (show ((be 8 b).take j).length = j by rw [List.length_take, be_length]; omega))
  generalize encB 2 n b s = EB at *
  generalize be 8 b = E at *
  obtain ⟨W1, hW1⟩ : ∃ W, W = w.alloc (.cells (vC 2 n b s) 29) := ⟨_, rfl⟩
  have hp := Lib.hid (show W1.heap[w.heap.size]? = some (.cells (vC 2 n b s) 29 (0, 0)) by rw [hW1]; exact heap_alloc_new w _)
  have hB := Lib.hid (show Below w.heap.size w W1 by rw [hW1]; exact below_a w _)
  have hlt := Lib.hid (Array.getElem?_eq_some_iff.1 hp.out).1
  obtain ⟨c0, c1, c2, c3⟩ := cellsV hp.out
  have bA := below_a W1 (.cells #[.int .u8 2] 5)
  have ho := Lib.hid (ownB_row (cs := [2]) (heap_alloc_new W1 (.cells #[.int .u8 2] 5)) 1 rfl (by decide) (Nat.le_refl W1.heap.size))
  have bA := Lib.hid bA
  have hp2 := rowB hp.out bA.out (Array.getElem?_eq_some_iff.1 hp.out).1
  obtain ⟨d0, d1, d2, d3⟩ := cellsV hp2
  have hz := Lib.hid (hB.out.size)
  clear hb hp2
  go_enter Tryz.func215, Tryz.ntmps215
  go_upto_region 1 with fail
  rw [← hW1]
  clear hW1
  go_upto_region 6 with fail
  clear d0 d1 d2 d3 c0 c1 c2 c3
  go_wp2
  go_loopw [3, 4] (fun x i wr => ∃ j : Nat, j ≤ 8 ∧ i = .int .i64 (7 - (j : Int)) ∧ OwnB W1.heap.size 5 wr x ([2] ++ E.take j) ∧ Below W1.heap.size W1 wr) (fun _ i _ => (intOf i + 1).toNat)
  case atStart => exact ⟨0, by decide, rfl, by simpa using ho.out, bA.out⟩
  case round =>
    obtain ⟨j, hj, rfl, hx, hy⟩ := hrel
    obtain ⟨xa, xc, rfl⟩ := hx.rd.slice
    have hx' := Lib.hid hx
    have hy' := Lib.hid hy
    have hlen := Lib.hid (show ([2] ++ E.take j).length ≤ 9 by have := hL.out j hj; simp only [List.length_append, List.length_cons, List.length_nil]; omega)
    clear hx hy
    generalize ([2] ++ E.take j).length = N at *
    by_cases hlt8 : j < 8
    · have hby : ith E j = (b : Int) / 2 ^ (8 * (7 - j)) % 256 := by
        rw [hE.out j hlt8, pow256]
        rw [show (2 : Int) ^ (8 * (7 - j)) = ((2 ^ (8 * (7 - j)) : Nat) : Int) by simp]
        omega
      obtain ⟨t, ht⟩ : ∃ t : Nat, 8 * (7 - j) = t := ⟨_, rfl⟩
      obtain ⟨i, hi⟩ : ∃ i : Nat, 7 - j = i := ⟨_, rfl⟩
      rw [ht] at hby
      rw [show 7 - (j : Int) = (i : Int) by omega]
      have g1 : (0 : Int) ≤ (i : Int) := by omega
      have g3 : 8 * (i : Int) = (t : Int) := by omega
      have g2 : t < 64 := by omega
      have g4 : i ≤ 7 := by omega
      have hi' := Lib.hid hi
      have ht' := Lib.hid ht
      have hby' := Lib.hid hby
      have hrow := Lib.hid (rowB hp.out hy'.out hlt.out)
      obtain ⟨c0, c1, c2, c3⟩ := cellsV hrow.out
      have hn := Lib.hid (show RdB (wr.alloc (.cells #[.int .u8 ((b : Int) / 2 ^ t % 256)] 5)) (.slice (some ⟨wr.heap.size, 0, none⟩) 1 1) [((b : Int) / 2 ^ t % 256)] from rdB_row (cs := [((b : Int) / 2 ^ t % 256)]) (heap_alloc_new wr (.cells (u8s [((b : Int) / 2 ^ t % 256)]) 5)) 1 rfl (by decide))
      have hox := Lib.hid (show OwnB W1.heap.size 5 (wr.alloc (.cells #[.int .u8 ((b : Int) / 2 ^ t % 256)] 5)) (.slice xa N xc) ([2] ++ E.take j) from hx'.out.kept (below_a wr _))
      have hyx := Lib.hid (show Below W1.heap.size W1 (wr.alloc (.cells #[.int .u8 ((b : Int) / 2 ^ t % 256)] 5)) from hy'.out.trans ((below_a wr _).mono hy'.out.size))
      clear ht hby hi
      go_wp2_with (refine appendB rfl _ _ 101 rfl W1.heap.size 5 Tryz.underlying101 (by kernel_rfl) _ rfl _ hox.out _ rfl _ hn.out (by have h2 := hL.out j hj; simp only [List.length_append, List.length_cons, List.length_nil]; omega) hyx.out.size ?_)
      intro v' w4 h4 h5
      have h4' := Lib.hid h4
      have h5' := Lib.hid (hyx.out.trans (hox.out.below h5 hyx.out.size))
      clear h4 h5 c0 c1 c2 c3
      refine Stop.go ?_
      go_wp2
      go_roundw
      case rel => exact ⟨j + 1, by omega, by have := hi'.out; go_num, by rw [hT.out j hlt8, hby'.out, ← List.append_assoc]; exact h4'.out, h5'.out⟩
      case measure => have := hi'.out; simp [intOf]
    · obtain rfl : j = 8 := by omega
      rw [hA.out] at hx'
      have g1 : ¬ (0 : Int) ≤ 7 - ((8 : Nat) : Int) := by decide
      clear hlt8
      go_wp2
      go_ret
      exact ⟨_, rfl, by rw [e.out]; exact hx'.out.mono hz.out, hB.out.trans (hy'.out.mono hz.out)⟩
set_option maxHeartbeats 2000000 in
set_option maxRecDepth 100000 in
theorem rBytes_text (n : Int) (b : Nat) (s : ByteArray) (hs : s.size ≤ 100) (w : World) :
    Calls Tryz.prog 215 #[vA 3 n b s] w fun e w' => ∃ sv, e = .returned sv ∧ OwnB w.heap.size 5 w' sv (encB 3 n b s) ∧ Below w.heap.size w w' := by
  have e := Lib.hid (show encB 3 n b s = [3] ++ textB (sI s) from rfl)
  have hl := Lib.hid (show (textB (sI s)).length ≤ 1000 by rw [textB_length, sI_length]; have := numL_le s.size (by omega); omega)
  have kc := fun (w : World) => run_bytes_of_string (P := Tryz.prog) w 9 101 5 s Tryz.underlying9 Tryz.underlying101 Tryz.underlying5
  have hT := Lib.hid (fun (W : World) (m : Nat × Nat) => rtext4_any _ (sI s) _ (rd_strI W s (by omega) m) (by rw [sI_length]; omega))
  generalize encB 3 n b s = EB at *
  generalize textB (sI s) = TB at *
  obtain ⟨W1, hW1⟩ : ∃ W, W = w.alloc (.cells (vC 3 n b s) 29) := ⟨_, rfl⟩
  have hp := Lib.hid (show W1.heap[w.heap.size]? = some (.cells (vC 3 n b s) 29 (0, 0)) by rw [hW1]; exact heap_alloc_new w _)
  have hB := Lib.hid (show Below w.heap.size w W1 by rw [hW1]; exact below_a w _)
  obtain ⟨c0, c1, c2, c3⟩ := cellsV hp.out
  have bA := below_a W1 (.cells #[.int .u8 3] 5)
  have ho := Lib.hid (ownB_row (cs := [3]) (heap_alloc_new W1 (.cells #[.int .u8 3] 5)) 1 rfl (by decide) hB.out.size)
  have hp2 := rowB hp.out bA (Array.getElem?_eq_some_iff.1 hp.out).1
  obtain ⟨d0, d1, d2, d3⟩ := cellsV hp2
  have hB1 := Lib.hid (hB.out.trans (bA.mono hB.out.size))
  clear hs hp2 bA
  go_enter Tryz.func215, Tryz.ntmps215
  go_upto_region 1 with fail
  rw [← hW1]
  clear hW1
  go_upto_region 11 with fail
  generalize hgw : W1.heap.size = gw at *
  generalize hW2 : W1.alloc (.cells #[.int .u8 3] 5) = W2 at *
  clear c0 c1 c2 c3 hW2 hgw
  have hT1 := Lib.hid (fun m => hT.out W2 m)
  have hB2 := Lib.hid (fun o => (show Below W2.heap.size W2 (W2.drew.alloc o) from ((Below.refl W2.heap.size W2).drew).alloc (Nat.le_refl _) o))
  go_wp2_with (go_at_call 214; (refine (hT1.out _).mono ?_); rintro e w2 ⟨r, rfl, h2, h4⟩; have hr2 := Lib.hid h2.rd; have hb2 := Lib.hid ((hB2.out _).trans (h4.mono (hB2.out _).size)); have ho2 := Lib.hid (ho.out.kept hb2.out); have hB3 := Lib.hid (hB1.out.trans (hb2.out.mono hB1.out.size)); clear h2 h4 d0 d1 d2 d3; refine Stop.go'' _ ?_)
  refine StopP.go ?_
  go_wp2_with (refine appendB rfl _ _ 101 rfl w.heap.size 5 Tryz.underlying101 (by kernel_rfl) _ rfl [3] ho2.out _ rfl TB hr2.out (by have := hl.out; simp; omega) hB3.out.size ?_)
  intro v' w3 h4 h5
  have h4' := Lib.hid h4
  have h5' := Lib.hid (hB3.out.trans (ho2.out.below h5 hB3.out.size))
  clear h4 h5
  refine Stop.go ?_
  go_wp2
  go_ret
  exact ⟨_, rfl, by rw [e.out]; exact h4'.out, h5'.out⟩
theorem rBytes_any (k n : Int) (b : Nat) (s : ByteArray) (fv : VFit k n b s) (hv : validV k n b s = true) (hs : s.size ≤ 100) (w : World) :
    Calls Tryz.prog 215 #[vA k n b s] w fun e w' => ∃ sv, e = .returned sv ∧ OwnB w.heap.size 5 w' sv (encB k n b s) ∧ Below w.heap.size w w' := by
  have hk := valid_kind hv
  rcases (show k = 1 ∨ k = 2 ∨ k = 3 by omega) with rfl | rfl | rfl
  · exact rBytes_num n b s fv.n w
  · exact rBytes_flt n b s fv.b w
  · exact rBytes_text n b s hs w
end Go.Proofs.YtlbgffhipondiaaGreatDoor.wir.val
namespace Go.Proofs.YtlbgffhipondiaaGreatDoor.wir.val
open Go.RowKit Go.YtlbgffhipondiaaGreatDoor
set_option linter.unusedVariables false
/-- A slice of one's own lies in no block of another type. -/
theorem ownNe {B : Nat} {E T : TypeId} {w : World} {v : Value} {l : List Int} (h : OwnB B E w v l) {g : Nat} {cs : Array Value} {fr : Nat × Nat} (hg : w.heap[g]? = some (.cells cs T fr)) (hT : T ≠ E) : some g ≠ v.ownBlock := by
  rcases h.2 with ⟨rfl, _⟩ | ⟨k, cap, cur, rfl, hb, hk, _⟩
  · intro e; cases e
  · intro e
    simp only [Value.ownBlock, Option.some.injEq] at e
    subst e
    rw [hg] at hk
    injection hk with hk
    injection hk with _ h2 _
    exact hT h2
theorem grownRow {w w' : World} {r : Option Nat} (h : w.grownBy w' r) {g : Nat} {o : Obj} (hg : w.heap[g]? = some o) (hne : some g ≠ r) : w'.heap[g]? = some o :=
  (h.block g (Array.getElem?_eq_some_iff.1 hg).1 hne).trans hg
theorem own_setCell {B : Nat} {E T : TypeId} {w : World} {v : Value} {l : List Int} (h : OwnB B E w v l) {g : Nat} {cs : Array Value} (hg : w.heap[g]? = some (.cells cs T (0, 0))) (hT : T ≠ E) (i : Nat) (x : Value) : OwnB B E (w.setCell ⟨g, i, none⟩ x) v l := by
  have hne := ownNe h hg hT
  rw [setCell_eq hg]
  refine ⟨h.1, ?_⟩
  rcases h.2 with hn | ⟨k, cap, cur, rfl, hb, hk, rest⟩
  · exact .inl hn
  · refine .inr ⟨k, cap, cur, rfl, hb, (setRow_other w g k _ ?_).trans hk, rest⟩
    intro e
    exact hne (by rw [← e]; rfl)
set_option maxRecDepth 100000 in
/-- The closure that puts a part behind what is there. -/
theorem putM_any (B g : Nat) (sv : Value) (l : List Int) (rv : Value) (r : List Int) (e : Int) (w : World) (ho : OwnB B 5 w sv l) (hg : w.heap[g]? = some (.cells #[sv] 101 (0, 0))) (hr : RdB w rv r) (hlen : l.length + r.length ≤ 1000000) (hB : B ≤ g) :
    Calls Tryz.prog 127 #[rv, .int .i64 e, .pointer (some ⟨g, 0, none⟩)] w fun x w' => IsRet x ∧ ∃ sv', w'.heap[g]? = some (.cells #[sv'] 101 (0, 0)) ∧ OwnB B 5 w' sv' (l ++ r) ∧ Below B w w' := by
  have c1 : w.cell? ⟨g, 0, none⟩ = some sv := by rw [cell_of_row _ _ _ _ _ _ hg]; rfl
  have hgs := (Array.getElem?_eq_some_iff.1 hg).1
  have ho' := Lib.hid ho; have hg' := Lib.hid hg; have hr' := Lib.hid hr
  have hBs : B ≤ w.heap.size := by omega
  clear ho hg hr
  go_enter Tryz.func127, Tryz.ntmps127
  go_wp2_with (refine appendB rfl _ _ 101 rfl B 5 Tryz.underlying101 (by kernel_rfl) _ rfl l ho'.out _ rfl r hr'.out (by omega) hBs ?_)
  intro v' w1 h1 h2
  obtain ⟨pa, pc, rfl⟩ := h1.rd.slice
  have hg1 := grownRow h2 hg'.out (ownNe ho'.out hg'.out (by decide))
  have k1 : w1.cell? ⟨g, 0, none⟩ = some sv := by rw [cell_of_row _ _ _ _ _ _ hg1]; rfl
  have k2 : w1.frozen? ⟨g, 0, none⟩ = false := frozen_of_row _ _ 0 _ _ hg1
  have hb1 := Lib.hid (ho'.out.below h2 hBs)
  have ho1 := Lib.hid h1; have hg1' := Lib.hid hg1
  clear h1 h2 hg1
  generalize (l ++ r).length = N at *
  refine Stop.go ?_
  go_wp2
  go_end0
  exact ⟨⟨_, rfl⟩, _, setCell_row hg1'.out 0 _, own_setCell ho1.out hg1'.out (by decide) 0 _, hb1.out.setCell hB _⟩
theorem encB_short {v : Va} (fv : v.fit) (hv : v.ok = true) : (encB v.k v.n v.b v.s).length ≤ 100 := by
  have hk := valid_kind hv
  unfold encB
  split
  · have := numL_le (foldN v.n) (fold_lt v.n fv.n)
    simp only [List.length_cons, numB_length]; omega
  · split
    · simp only [List.length_cons, be_length]; omega
    · have h3 : v.k = 3 := by omega
      have hs : v.s.size ≤ 30 := valid_text (n := v.n) (b := v.b) (by rw [← h3]; exact hv)
      have := numL_le v.s.size (by omega)
      simp only [List.length_cons, textB_length, sI_length]; omega
theorem rd_one' (w : World) (x : Int) : RdB (w.alloc (.cells #[.int .u8 x] 5)) (.slice (some ⟨w.heap.size, 0, none⟩) 1 1) [x] := rdB_row (cs := [x]) (heap_alloc_new w _) 1 rfl (by decide)
/-- The bytes of a message. -/
def msgB (o : Od) : List Int := (((((([111] ++ numB o.au) ++ (numB o.n ++ o.F)) ++ numB o.st) ++ [o.k]) ++ (if o.k = 1 then [] else textB (sI o.key))) ++ (if o.k = 4 then encB o.v.k o.v.n o.v.b o.v.s else []))
theorem cellsP {w : World} {g : Nat} {o : Od} {pv : Value} (h : w.heap[g]? = some (.cells (o.c pv) 35 (0, 0))) :
    w.cell? ⟨g, 0, none⟩ = some (.int .u32 (o.au : Int)) ∧ w.cell? ⟨g, 1, none⟩ = some pv ∧ w.cell? ⟨g, 2, none⟩ = some (.int .u64 (o.st : Int)) ∧ w.cell? ⟨g, 3, none⟩ = some (.int .u8 o.k) ∧ w.cell? ⟨g, 4, none⟩ = some (.string o.key) ∧ w.rangeAt g 5 o.v.l := by
  refine ⟨cell_of_row _ _ _ _ _ _ h, cell_of_row _ _ _ _ _ _ h, cell_of_row _ _ _ _ _ _ h, cell_of_row _ _ _ _ _ _ h, cell_of_row _ _ _ _ _ _ h, ?_⟩
  intro j x hx
  have hj : j < 4 := (List.getElem?_eq_some_iff.1 hx).1
  rw [← hx]
  unfold World.cell?
  rw [show (⟨g, 5 + j, none⟩ : Addr).block = g from rfl, h]
  match j, hj with
  | 0, _ => rfl
  | 1, _ => rfl
  | 2, _ => rfl
  | 3, _ => rfl
theorem act_kinds {k : Int} {s : ByteArray} {v : Va} (h : actB k s v = true) : (k = 1) ∨ ((k = 2 ∨ k = 3) ∧ s.size ≤ 20) ∨ (k = 4 ∧ s.size ≤ 20 ∧ v.ok = true) := by
  have hk : keyB s = true → s.size ≤ 20 := fun h => by
    unfold keyB at h
    simp only [Bool.and_eq_true, decide_eq_true_eq] at h
    exact h.2.1
  unfold actB at h
  by_cases h1 : k = 1
  · exact .inl h1
  · rw [if_neg h1] at h
    by_cases h2 : k = 2 ∨ k = 3
    · rw [if_pos h2, Bool.and_eq_true] at h
      exact .inr (.inl ⟨h2, hk h.1⟩)
    · rw [if_neg h2] at h
      by_cases h4 : k = 4
      · rw [if_pos h4, Bool.and_eq_true] at h
        exact .inr (.inr ⟨h4, hk h.1, h.2⟩)
      · rw [if_neg h4] at h
        cases h
theorem u64_nat (n : Nat) (h : n < 18446744073709551616) : IntKind.u64.wrap (n : Int) = (n : Int) := by
  exact IntWalk.u64_in _ (by omega)
set_option maxHeartbeats 4000000 in
set_option maxRecDepth 100000 in
theorem message_any (o : Od) (fo : o.Fit) (hn : o.n ≤ 4) (hR : riseF o.F o.n = true) (hA : actB o.k o.key o.v = true) (pv : Value) (w : World) (hp : RdI w pv o.n o.F) :
    Calls Tryz.prog 82 #[.agg (o.c pv)] w fun e w' => ∃ sv, e = .returned sv ∧ OwnB w.heap.size 5 w' sv (msgB o) ∧ Below w.heap.size w w' := by
  obtain ⟨W, hW⟩ : ∃ W, W = w.alloc (.cells (o.c pv) 35) := ⟨_, rfl⟩
  have hr0 := heap_alloc_new w (.cells (o.c pv) 35)
  have hb0 := (Below.refl w.heap.size w).alloc (Nat.le_refl _) (.cells (o.c pv) 35)
  rw [← hW] at hr0 hb0
  have hlF := Lib.hid hp.len
  obtain ⟨pa, pc, rfl⟩ := hp.slice
  have hb1 := Lib.hid hb0
  have hlt := Lib.hid hb0.size
  have hrow := Lib.hid hr0
  have hmids := Lib.hid (fun (wz : World) (h : Below W.heap.size W wz) => (cellsP (rowB hrow.out h (Array.getElem?_eq_some_iff.1 hr0).1)))
  have hmf : ∀ (fn : Fn) (first cap : Array Value) (w : World), (Instr.makeFunc fn first cap).run Tryz.prog w = .ok (.func fn first cap) w := fun _ _ _ _ => rfl
  have kc := fun (w : World) => run_bytes_of_string (P := Tryz.prog) w 9 101 5 o.key Tryz.underlying9 Tryz.underlying101 Tryz.underlying5
  have hau := u64_nat o.au (by have := fo.au; omega)
  have hid := Lib.hid (fun (wz : World) (h : Below W.heap.size W wz) => ids_ok o.F o.n (.slice pa o.n pc) wz ((hp.mono hb0).mono h) fo.F (by omega) hR)
  have hnu := Lib.hid (fun (wz : World) => number_any o.au (by have := fo.au; omega) wz)
  have hns := Lib.hid (fun (wz : World) => number_any o.st fo.st wz)
  have la := Lib.hid (numL_le o.au (by have := fo.au; omega))
  have ls := Lib.hid (numL_le o.st fo.st)
  have ln := Lib.hid (numL_le o.n (by omega))
  have hkinds := Lib.hid (act_kinds hA)
  have hT := Lib.hid (fun (hs : o.key.size ≤ 20) (W : World) (m : Nat × Nat) => bytes_any _ (sI o.key) _ (rd_strI W o.key (by omega) m) (by rw [sI_length]; omega))
  have hE := Lib.hid (fun (hv : o.v.ok = true) (wz : World) => enc_ok o.v.k o.v.n o.v.b o.v.s fo.v hv wz)
  have hEl := Lib.hid (fun (hv : o.v.ok = true) => encB_short fo.v hv)
  have hnn := Lib.hid hn
  clear hr0 hb0 hp hrow fo hR hA hn
  go_enter Tryz.func82, Tryz.ntmps82
  go_upto_region 1 with fail
  rw [← hW]
  clear hW
  go_upto_region 3 with fail
  have hO := Lib.hid ((ownB_row (cs := [111]) (heap_alloc_new W (.cells #[.int .u8 111] 5)) 1 rfl (by decide) (Nat.le_refl W.heap.size)).kept (below_a (W.alloc (.cells #[.int .u8 111] 5)) (.cells #[.slice (some ⟨W.heap.size, 0, none⟩) 1 1] 101)))
  have hC := Lib.hid (hn2 W (.cells #[.int .u8 111] 5) (.cells #[.slice (some ⟨W.heap.size, 0, none⟩) 1 1] 101))
  have hB := Lib.hid ((below_a W (.cells #[.int .u8 111] 5)).alloc (by simp) (.cells #[.slice (some ⟨W.heap.size, 0, none⟩) 1 1] 101))
  have hN := Lib.hid (show ([111] : List Int).length ≤ 1 from Nat.le_refl _)
  generalize (W.alloc (.cells #[.int .u8 111] 5)).alloc (.cells #[.slice (some ⟨W.heap.size, 0, none⟩) 1 1] 101) = wx at *
  generalize Value.slice (some ⟨W.heap.size, 0, none⟩) 1 1 = sv at *
  obtain ⟨g, hg⟩ : ∃ g, g = W.heap.size + 1 := ⟨_, rfl⟩
  rw [← hg] at hC ⊢
  have hBg := Lib.hid (show W.heap.size ≤ g by omega)
  clear hg
  obtain ⟨c0, c1, c2, c3, c4, c5⟩ := hmids.out _ hB.out
  go_upto_region 4 with (first | (go_at_call 113; (with_reducible refine (hnu.out _).mono ?_); rintro e w4 ⟨rfl, q1, q2⟩; replace hO := Lib.hid (hO.out.kept (q2)); replace hC := Lib.hid (rowB hC.out (q2) (Array.getElem?_eq_some_iff.1 hC.out).1); replace hB := Lib.hid (hB.out.trans (Below.mono (q2) hB.out.size)); have hr := Lib.hid (rdB_row q1 _ (numB_length _) (Nat.le_trans la.out (by decide))); have hrl := Lib.hid (show (numB o.au).length ≤ 9 by rw [numB_length]; exact la.out); clear q1 q2) | (go_at_call 127; (with_reducible refine (putM_any W.heap.size g _ [111] _ (numB o.au) _ _ (hO.out) (hC.out) (hr.out) (by have h1 := hN.out; have h2 := hrl.out; omega) hBg.out).mono ?_); rintro e w5 ⟨⟨z5, rfl⟩, sv5, q1, q2, q3⟩; replace hO := Lib.hid q2; replace hC := Lib.hid q1; replace hB := Lib.hid ((hB.out).trans q3); replace hN := Lib.hid (show ([111] ++ (numB o.au)).length ≤ 20 by have h1 := hN.out; have h2 := hrl.out; rw [List.length_append]; omega); clear c0 c1 c2 c3 c4 c5; obtain ⟨c0, c1, c2, c3, c4, c5⟩ := hmids.out _ hB.out; clear q1 q2 q3 hrl))
  clear hr
  go_upto_region 5 with (first | (go_at_call 128; (with_reducible refine (hid.out _ hB.out).mono ?_); rintro e w4 ⟨g4, rfl, q0, q1, q2⟩; replace hO := Lib.hid (hO.out.kept (q2)); replace hC := Lib.hid (rowB hC.out (q2) (Array.getElem?_eq_some_iff.1 hC.out).1); replace hB := Lib.hid (hB.out.trans (Below.mono (q2) hB.out.size)); have hr := Lib.hid (rdB_row q1 _ (by rw [List.length_append, numB_length, hlF.out]) (by have h1 := ln.out; have h2 := hnn.out; unfold maxLen; omega)); have hrl := Lib.hid (show (numB o.n ++ o.F).length ≤ 140 by rw [List.length_append, numB_length, hlF.out]; have h1 := ln.out; have h2 := hnn.out; omega); clear q0 q1 q2) | (go_at_call 127; (with_reducible refine (putM_any W.heap.size g _ ([111] ++ numB o.au) _ (numB o.n ++ o.F) _ _ (hO.out) (hC.out) (hr.out) (by have h1 := hN.out; have h2 := hrl.out; omega) hBg.out).mono ?_); rintro e w5 ⟨⟨z5, rfl⟩, sv5, q1, q2, q3⟩; replace hO := Lib.hid q2; replace hC := Lib.hid q1; replace hB := Lib.hid ((hB.out).trans q3); replace hN := Lib.hid (show (([111] ++ numB o.au) ++ (numB o.n ++ o.F)).length ≤ 200 by have h1 := hN.out; have h2 := hrl.out; rw [List.length_append]; omega); clear c0 c1 c2 c3 c4 c5; obtain ⟨c0, c1, c2, c3, c4, c5⟩ := hmids.out _ hB.out; clear q1 q2 q3 hrl))
  clear hr
  go_upto_region 6 with (first | (go_at_call 113; (with_reducible refine (hns.out _).mono ?_); rintro e w4 ⟨rfl, q1, q2⟩; replace hO := Lib.hid (hO.out.kept (q2)); replace hC := Lib.hid (rowB hC.out (q2) (Array.getElem?_eq_some_iff.1 hC.out).1); replace hB := Lib.hid (hB.out.trans (Below.mono (q2) hB.out.size)); have hr := Lib.hid (rdB_row q1 _ (numB_length _) (Nat.le_trans ls.out (by decide))); have hrl := Lib.hid (show (numB o.st).length ≤ 9 by rw [numB_length]; exact ls.out); clear q1 q2) | (go_at_call 127; (with_reducible refine (putM_any W.heap.size g _ (([111] ++ numB o.au) ++ (numB o.n ++ o.F)) _ (numB o.st) _ _ (hO.out) (hC.out) (hr.out) (by have h1 := hN.out; have h2 := hrl.out; omega) hBg.out).mono ?_); rintro e w5 ⟨⟨z5, rfl⟩, sv5, q1, q2, q3⟩; replace hO := Lib.hid q2; replace hC := Lib.hid q1; replace hB := Lib.hid ((hB.out).trans q3); replace hN := Lib.hid (show ((([111] ++ numB o.au) ++ (numB o.n ++ o.F)) ++ (numB o.st)).length ≤ 220 by have h1 := hN.out; have h2 := hrl.out; rw [List.length_append]; omega); clear c0 c1 c2 c3 c4 c5; obtain ⟨c0, c1, c2, c3, c4, c5⟩ := hmids.out _ hB.out; clear q1 q2 q3 hrl))
  clear hr
  have hrl := Lib.hid (show ([o.k] : List Int).length ≤ 1 from Nat.le_refl _)
  go_upto_region 7 with (go_at_call 127; (with_reducible refine (putM_any W.heap.size g _ ((([111] ++ numB o.au) ++ (numB o.n ++ o.F)) ++ numB o.st) _ [o.k] _ _ (hO.out.kept (below_a _ (.cells #[.int .u8 o.k] 5))) (rowB hC.out (below_a _ (.cells #[.int .u8 o.k] 5)) (Array.getElem?_eq_some_iff.1 hC.out).1) (rd_one' _ _) (by have h1 := hN.out; have h2 := hrl.out; omega) hBg.out).mono ?_); rintro e w5 ⟨⟨z5, rfl⟩, sv5, q1, q2, q3⟩; replace hO := Lib.hid q2; replace hC := Lib.hid q1; replace hB := Lib.hid ((hB.out.alloc hB.out.size (.cells #[.int .u8 o.k] 5)).trans q3); replace hN := Lib.hid (show (((([111] ++ numB o.au) ++ (numB o.n ++ o.F)) ++ numB o.st) ++ [o.k]).length ≤ 230 by have h1 := hN.out; have h2 := hrl.out; rw [List.length_append]; omega); clear c0 c1 c2 c3 c4 c5; obtain ⟨c0, c1, c2, c3, c4, c5⟩ := hmids.out _ hB.out; clear q1 q2 q3 hrl)
  have cg : ∀ {wz : World} {sz : Value}, wz.heap[g]? = some (.cells #[sz] 101 (0, 0)) → wz.cell? ⟨g, 0, none⟩ = some sz := fun h => by rw [cell_of_row _ _ _ _ _ _ h]; rfl
  rcases hkinds.out with hk | ⟨hk, hks⟩ | ⟨hk, hks, hv⟩
  · have k1 : (o.k != 1) = false := by rw [hk]; rfl
    have k4 : (o.k == 4) = false := by rw [hk]; rfl
    have cz := cg hC.out
    clear cg
    go_wp2
    go_ret
    have he : msgB o = (((([111] ++ numB o.au) ++ (numB o.n ++ o.F)) ++ numB o.st) ++ [o.k]) := by unfold msgB; rw [if_pos hk, if_neg (by rw [hk]; decide), List.append_nil, List.append_nil]
    exact ⟨_, rfl, by rw [he]; exact hO.out.mono hlt.out, hb1.out.trans (hB.out.mono hb1.out.size)⟩
  · have k1 : (o.k != 1) = true := by rcases hk with hk | hk <;> (rw [hk]; rfl)
    have k4 : (o.k == 4) = false := by rcases hk with hk | hk <;> (rw [hk]; rfl)
    go_upto_region 9 with (first | (go_at_call 129; (refine (hT.out hks w5 _).mono ?_); rintro e w4 ⟨g4, rfl, q0, q1, q2⟩; replace hO := Lib.hid (hO.out.kept ((show Below w5.heap.size w5 (w5.drew.alloc _) from (Below.refl _ _).drew.alloc (Nat.le_refl _) _).trans (q2.mono (by simp)))); replace hC := Lib.hid (rowB hC.out ((show Below w5.heap.size w5 (w5.drew.alloc _) from (Below.refl _ _).drew.alloc (Nat.le_refl _) _).trans (q2.mono (by simp))) (Array.getElem?_eq_some_iff.1 hC.out).1); replace hB := Lib.hid (hB.out.trans (Below.mono ((show Below w5.heap.size w5 (w5.drew.alloc _) from (Below.refl _ _).drew.alloc (Nat.le_refl _) _).trans (q2.mono (by simp))) hB.out.size)); have hr := Lib.hid (rdB_row q1 _ rfl (by rw [textB_length, sI_length]; have := numL_le o.key.size (by omega); unfold maxLen; omega)); have hrl := Lib.hid (show (textB (sI o.key)).length ≤ 30 by rw [textB_length, sI_length]; have := numL_le o.key.size (by omega); omega); clear q0 q1 q2) | (go_at_call 127; (with_reducible refine (putM_any W.heap.size g _ (((([111] ++ numB o.au) ++ (numB o.n ++ o.F)) ++ numB o.st) ++ [o.k]) _ (textB (sI o.key)) _ _ (hO.out) (hC.out) (hr.out) (by have h1 := hN.out; have h2 := hrl.out; omega) hBg.out).mono ?_); rintro e w5 ⟨⟨z5, rfl⟩, sv5, q1, q2, q3⟩; replace hO := Lib.hid q2; replace hC := Lib.hid q1; replace hB := Lib.hid ((hB.out).trans q3); replace hN := Lib.hid (show ((((([111] ++ numB o.au) ++ (numB o.n ++ o.F)) ++ numB o.st) ++ [o.k]) ++ (textB (sI o.key))).length ≤ 260 by have h1 := hN.out; have h2 := hrl.out; rw [List.length_append]; omega); clear c0 c1 c2 c3 c4 c5; obtain ⟨c0, c1, c2, c3, c4, c5⟩ := hmids.out _ hB.out; clear q1 q2 q3 hrl))
    have cz := cg hC.out
    clear cg
    go_wp2
    go_ret
    have he : msgB o = ((((([111] ++ numB o.au) ++ (numB o.n ++ o.F)) ++ numB o.st) ++ [o.k]) ++ textB (sI o.key)) := by unfold msgB; rw [if_neg (by rcases hk with hk | hk <;> (rw [hk]; decide)), if_neg (by rcases hk with hk | hk <;> (rw [hk]; decide)), List.append_nil]
    exact ⟨_, rfl, by rw [he]; exact hO.out.mono hlt.out, hb1.out.trans (hB.out.mono hb1.out.size)⟩
  · have k1 : (o.k != 1) = true := by rw [hk]; rfl
    have k4 : (o.k == 4) = true := by rw [hk]; rfl
    go_upto_region 9 with (first | (go_at_call 129; (refine (hT.out hks w5 _).mono ?_); rintro e w4 ⟨g4, rfl, q0, q1, q2⟩; replace hO := Lib.hid (hO.out.kept ((show Below w5.heap.size w5 (w5.drew.alloc _) from (Below.refl _ _).drew.alloc (Nat.le_refl _) _).trans (q2.mono (by simp)))); replace hC := Lib.hid (rowB hC.out ((show Below w5.heap.size w5 (w5.drew.alloc _) from (Below.refl _ _).drew.alloc (Nat.le_refl _) _).trans (q2.mono (by simp))) (Array.getElem?_eq_some_iff.1 hC.out).1); replace hB := Lib.hid (hB.out.trans (Below.mono ((show Below w5.heap.size w5 (w5.drew.alloc _) from (Below.refl _ _).drew.alloc (Nat.le_refl _) _).trans (q2.mono (by simp))) hB.out.size)); have hr := Lib.hid (rdB_row q1 _ rfl (by rw [textB_length, sI_length]; have := numL_le o.key.size (by omega); unfold maxLen; omega)); have hrl := Lib.hid (show (textB (sI o.key)).length ≤ 30 by rw [textB_length, sI_length]; have := numL_le o.key.size (by omega); omega); clear q0 q1 q2) | (go_at_call 127; (with_reducible refine (putM_any W.heap.size g _ (((([111] ++ numB o.au) ++ (numB o.n ++ o.F)) ++ numB o.st) ++ [o.k]) _ (textB (sI o.key)) _ _ (hO.out) (hC.out) (hr.out) (by have h1 := hN.out; have h2 := hrl.out; omega) hBg.out).mono ?_); rintro e w5 ⟨⟨z5, rfl⟩, sv5, q1, q2, q3⟩; replace hO := Lib.hid q2; replace hC := Lib.hid q1; replace hB := Lib.hid ((hB.out).trans q3); replace hN := Lib.hid (show ((((([111] ++ numB o.au) ++ (numB o.n ++ o.F)) ++ numB o.st) ++ [o.k]) ++ (textB (sI o.key))).length ≤ 260 by have h1 := hN.out; have h2 := hrl.out; rw [List.length_append]; omega); clear c0 c1 c2 c3 c4 c5; obtain ⟨c0, c1, c2, c3, c4, c5⟩ := hmids.out _ hB.out; clear q1 q2 q3 hrl))
    clear hr
    go_upto_region 11 with (first | (go_at_call 130; (with_reducible refine (hE.out hv _).mono ?_); rintro e w4 ⟨sx, rfl, q1, q2⟩; replace hO := Lib.hid (hO.out.kept (q2)); replace hC := Lib.hid (rowB hC.out (q2) (Array.getElem?_eq_some_iff.1 hC.out).1); replace hB := Lib.hid (hB.out.trans (Below.mono (q2) hB.out.size)); have hr := Lib.hid (q1.rd); have hrl := Lib.hid (hEl.out hv); clear q1 q2) | (refine wpList_midV rfl 29 _ rfl w.heap.size 5 rfl o.v.l _ c5 Tryz.underlying29 rfl info_val ?_) | (go_at_call 127; (with_reducible refine (putM_any W.heap.size g _ ((((([111] ++ numB o.au) ++ (numB o.n ++ o.F)) ++ numB o.st) ++ [o.k]) ++ textB (sI o.key)) _ (encB o.v.k o.v.n o.v.b o.v.s) _ _ (hO.out) (hC.out) (hr.out) (by have h1 := hN.out; have h2 := hrl.out; omega) hBg.out).mono ?_); rintro e w5 ⟨⟨z5, rfl⟩, sv5, q1, q2, q3⟩; replace hO := Lib.hid q2; replace hC := Lib.hid q1; replace hB := Lib.hid ((hB.out).trans q3); replace hN := Lib.hid (show (((((([111] ++ numB o.au) ++ (numB o.n ++ o.F)) ++ numB o.st) ++ [o.k]) ++ textB (sI o.key)) ++ (encB o.v.k o.v.n o.v.b o.v.s)).length ≤ 400 by have h1 := hN.out; have h2 := hrl.out; rw [List.length_append]; omega); clear c0 c1 c2 c3 c4 c5; obtain ⟨c0, c1, c2, c3, c4, c5⟩ := hmids.out _ hB.out; clear q1 q2 q3 hrl))
    have cz := cg hC.out
    clear cg
    go_wp2
    go_ret
    have he : msgB o = (((((([111] ++ numB o.au) ++ (numB o.n ++ o.F)) ++ numB o.st) ++ [o.k]) ++ textB (sI o.key)) ++ encB o.v.k o.v.n o.v.b o.v.s) := by unfold msgB; rw [if_neg (by rw [hk]; decide), if_pos hk]
    exact ⟨_, rfl, by rw [he]; exact hO.out.mono hlt.out, hb1.out.trans (hB.out.mono hb1.out.size)⟩
end Go.Proofs.YtlbgffhipondiaaGreatDoor.wir.val
namespace Go.Proofs.YtlbgffhipondiaaGreatDoor.wir.val
open Go.RowKit Go.YtlbgffhipondiaaGreatDoor
set_option linter.unusedVariables false
def Od.bare (o : Od) : Od := { o with e := 0, s := 0 }
theorem Od.Fit.bare {o : Od} (h : o.Fit) : o.bare.Fit := ⟨h.au, h.F, h.n, h.st, h.k, h.key, h.v, (show 0 < 4294967296 by decide), (show 0 < 4294967296 by decide)⟩
theorem chk_zero {o : Od} (h : chkO o = 0) : o.n ≤ 4 ∧ riseF o.F o.n = true ∧ actB o.k o.key o.v = true := by
  unfold chkO at h
  by_cases h1 : 4 < o.n
  · rw [if_pos h1] at h; omega
  · rw [if_neg h1] at h
    by_cases h2 : riseF o.F o.n = true
    · rw [if_pos h2] at h
      by_cases h3 : okO o = true
      · unfold okO at h3
        simp only [Bool.and_eq_true] at h3
        exact ⟨by omega, h2, h3.2.2.1⟩
      · rw [if_neg h3] at h; omega
    · rw [if_neg h2] at h; omega
/-- The bytes of an operation. -/
def encO (o : Od) : List Int := (msgB o ++ numB o.e) ++ numB o.s
theorem op_one (o : Od) (a : Option Addr) (n c : Nat) : (o.c (.slice a n c)).all (·.oneCell') = true := by simp [Od.c, Value.oneCell']
theorem set_sig {w : World} {g : Nat} {o : Od} {pv : Value} (h : w.heap[g]? = some (.cells (o.c pv) 35 (0, 0))) (e s : Int) :
    (w.setCell ⟨g, 9, none⟩ (.int .u32 e)).setCell ⟨g, 10, none⟩ (.int .u32 s) = w.setRow g #[.int .u32 (o.au : Int), pv, .int .u64 (o.st : Int), .int .u8 o.k, .string o.key, .int .u8 o.v.k, .int .i64 o.v.n, .int .u64 (o.v.b : Int), .string o.v.s, .int .u32 e, .int .u32 s] := by
  have h1 := fun c => setRow_heap w g (o.c pv) c _ (0, 0) h
  rw [setCell_eq h]
  rw [setCell_eq (h1 _), setRow2 h]
  simp only [List.setIfInBounds_toArray, List.set_cons_succ, List.set_cons_zero]
set_option maxHeartbeats 4000000 in
set_option maxRecDepth 100000 in
theorem opMessage_any (o : Od) (fo : o.Fit) (pv : Value) (w : World) (hp : RdI w pv o.n o.F) :
    Calls Tryz.prog 110 #[.agg (o.c pv)] w fun e w' => (if chkO o.bare = 0 then ∃ sv, e = .returned (.tuple #[sv, .int .i64 0]) ∧ OwnB w.heap.size 5 w' sv (msgB o) else e = .returned (.tuple #[.slice none 0 0, .int .i64 (chkO o.bare)])) ∧ Below w.heap.size w w' := by
  obtain ⟨W, hW⟩ : ∃ W, W = w.alloc (.cells (o.c pv) 35) := ⟨_, rfl⟩
  have hr0 := heap_alloc_new w (.cells (o.c pv) 35)
  have hb0 := (Below.refl w.heap.size w).alloc (Nat.le_refl _) (.cells (o.c pv) 35)
  rw [← hW] at hr0 hb0
  obtain ⟨pa, pc, rfl⟩ := hp.slice
  have hsz := Lib.hid (Array.getElem?_eq_some_iff.1 hr0).1
  have hp1 := Lib.hid (hp.mono hb0)
  have hb1 := Lib.hid hb0
  have hf := fun i => frozen_of_row W w.heap.size i (o.c (.slice pa o.n pc)) 35 hr0
  have f9 := hf 9
  have f10 := hf 10
  have hcs := cellsO hr0
  obtain ⟨_, _, _, _, _, c9, c10⟩ := hcs
  have hset := Lib.hid (set_sig hr0 0 0)
  have hrow0 := Lib.hid hr0
  clear hr0 hb0 hf
  go_enter Tryz.func110, Tryz.ntmps110
  go_upto_region 1 with fail
  rw [← hW]
  clear hW
  go_upto_region 2 with fail
  rw [hset.out]
  have hrow := Lib.hid (show (W.setRow w.heap.size (o.bare.c (.slice pa o.n pc))).heap[w.heap.size]? = some (.cells (o.bare.c (.slice pa o.n pc)) 35 (0, 0)) from setRow_heap _ _ _ _ _ _ hrow0.out)
  have hbW := Lib.hid (show Below w.heap.size w (W.setRow w.heap.size (o.bare.c (.slice pa o.n pc))) from below_setRow' hb1.out (Nat.le_refl _) _)
  clear hset
  change Code.wp _ _ _ _ (W.setRow w.heap.size (o.bare.c (.slice pa o.n pc)))
  generalize W.setRow w.heap.size (o.bare.c (.slice pa o.n pc)) = W2 at *
  have hp2 := Lib.hid (hp.mono hbW.out)
  have hK := Lib.hid (opCheck_any o.bare fo.bare (.slice pa o.n pc) W2 hp2.out)
  have hM := Lib.hid (fun (h : chkO o.bare = 0) (wz : World) (hb : Below W2.heap.size W2 wz) => message_any o.bare fo.bare (chk_zero h).1 (chk_zero h).2.1 (chk_zero h).2.2 (.slice pa o.n pc) wz (hp2.out.mono hb))
  clear hp1 hp hrow0 c9 c10 f9 f10 fo hb1
  generalize hE : chkO o.bare = E at *
  by_cases h0 : E = 0
  · have hb0 : (E != 0) = false := by rw [h0]; rfl
    have hM' := Lib.hid (hM.out h0)
    have hE' := Lib.hid (hE.trans h0)
    clear hM hE
    go_wp2_with (first
      | (refine wpList_load_row_g rfl 35 _ rfl w.heap.size rfl 35 (o.bare.c (.slice pa o.n pc)) (0, 0) _ hrow.out Tryz.underlying35 rfl info_op ?_)
      | (go_at_call 80; (with_reducible refine (hK.out).mono ?_); rintro e w3 ⟨rfl, h3⟩; have hb3 := Lib.hid h3; have hrow3 := Lib.hid (rowB hrow.out h3 (Array.getElem?_eq_some_iff.1 hrow.out).1); clear h3)
      | (refine wpList_load_row_g rfl 35 _ rfl w.heap.size rfl 35 (o.bare.c (.slice pa o.n pc)) (0, 0) _ hrow3.out Tryz.underlying35 rfl info_op ?_)
      | (go_at_call 82; (with_reducible refine (hM'.out _ hb3.out).mono ?_); rintro e w4 ⟨sv, rfl, h4, h5⟩; have hO := Lib.hid h4; have hb4 := Lib.hid (hbW.out.trans ((hb3.out.mono hbW.out.size).trans (h5.mono (Nat.le_trans hbW.out.size hb3.out.size)))); have hle := Lib.hid (Nat.le_trans hbW.out.size hb3.out.size); clear h4 h5))
    go_ret2
    exact ⟨⟨_, rfl, hO.out.mono hle.out⟩, hb4.out⟩
  · have hb0 : (E != 0) = true := by simpa using h0
    have hE' := Lib.hid (show ¬ chkO o.bare = 0 from fun h => h0 (hE ▸ h))
    have hEE := Lib.hid hE
    clear hM hE
    go_wp2_with (first
      | (refine wpList_load_row_g rfl 35 _ rfl w.heap.size rfl 35 (o.bare.c (.slice pa o.n pc)) (0, 0) _ hrow.out Tryz.underlying35 rfl info_op ?_)
      | (go_at_call 80; (with_reducible refine (hK.out).mono ?_); rintro e w3 ⟨rfl, h3⟩; have hb3 := Lib.hid h3; clear h3))
    go_ret2
    exact ⟨by first | (rw [if_neg hE'.out, hEE.out]; rfl) | (rw [hEE.out]; rfl) | rfl, hbW.out.trans (hb3.out.mono hbW.out.size)⟩
theorem cells11 {w : World} {g : Nat} {x0 x1 x2 x3 x4 x5 x6 x7 x8 x9 x10 : Value} {T : TypeId} (h : w.heap[g]? = some (.cells #[x0, x1, x2, x3, x4, x5, x6, x7, x8, x9, x10] T (0, 0))) :
    w.cell? ⟨g, 0, none⟩ = some x0 ∧ w.cell? ⟨g, 1, none⟩ = some x1 ∧ w.cell? ⟨g, 2, none⟩ = some x2 ∧ w.cell? ⟨g, 3, none⟩ = some x3 ∧ w.cell? ⟨g, 4, none⟩ = some x4 ∧ w.cell? ⟨g, 5, none⟩ = some x5 ∧ w.cell? ⟨g, 6, none⟩ = some x6 ∧ w.cell? ⟨g, 7, none⟩ = some x7 ∧ w.cell? ⟨g, 8, none⟩ = some x8 ∧ w.cell? ⟨g, 9, none⟩ = some x9 ∧ w.cell? ⟨g, 10, none⟩ = some x10 :=
  ⟨cell_of_row _ _ _ _ _ _ h, cell_of_row _ _ _ _ _ _ h, cell_of_row _ _ _ _ _ _ h, cell_of_row _ _ _ _ _ _ h, cell_of_row _ _ _ _ _ _ h, cell_of_row _ _ _ _ _ _ h, cell_of_row _ _ _ _ _ _ h, cell_of_row _ _ _ _ _ _ h, cell_of_row _ _ _ _ _ _ h, cell_of_row _ _ _ _ _ _ h, cell_of_row _ _ _ _ _ _ h⟩
theorem msgB_short (o : Od) (fo : o.Fit) (hn : o.n ≤ 4) (hl : o.F.length = 32 * o.n) (hA : actB o.k o.key o.v = true) : (msgB o).length ≤ 380 := by
  have h1 := numL_le o.au (by have := fo.au; omega)
  have h2 := numL_le o.st fo.st
  have h3 := numL_le o.n (by omega)
  have hT : o.key.size ≤ 20 → (textB (sI o.key)).length ≤ 30 := fun h => by rw [textB_length, sI_length]; have := numL_le o.key.size (by omega); omega
  unfold msgB
  simp only [List.length_append, numB_length, hl, List.length_cons, List.length_nil]
  rcases act_kinds hA with hk | ⟨hk, hs⟩ | ⟨hk, hs, hv⟩
  · rw [if_pos hk, if_neg (by rw [hk]; decide)]; simp; omega
  · have := hT hs
    rw [if_neg (by rcases hk with hk | hk <;> (rw [hk]; decide)), if_neg (by rcases hk with hk | hk <;> (rw [hk]; decide))]
    simp; omega
  · have := hT hs
    have := encB_short fo.v hv
    rw [if_neg (by rw [hk]; decide), if_pos hk]
    omega
end Go.Proofs.YtlbgffhipondiaaGreatDoor.wir.val
namespace Go.Proofs.YtlbgffhipondiaaGreatDoor.wir.val
open Go.RowKit Go.YtlbgffhipondiaaGreatDoor
set_option linter.unusedVariables false
set_option maxHeartbeats 8000000 in
set_option maxRecDepth 100000 in
theorem opEncode_ok (o : Od) (fo : o.Fit) (pv : Value) (w : World) (hp : RdI w pv o.n o.F) (h0 : chkO o = 0) :
    Calls Tryz.prog 64 #[.agg (o.c pv)] w fun e w' => ∃ sv, e = .returned (.tuple #[sv, .int .i64 0]) ∧ OwnB w.heap.size 5 w' sv (encO o) ∧ Below w.heap.size w w' := by
  obtain ⟨W, hW⟩ : ∃ W, W = w.alloc (.cells (o.c pv) 35) := ⟨_, rfl⟩
  have hr0 := heap_alloc_new w (.cells (o.c pv) 35)
  have hb0 := (Below.refl w.heap.size w).alloc (Nat.le_refl _) (.cells (o.c pv) 35)
  rw [← hW] at hr0 hb0
  have hms := Lib.hid (msgB_short o fo (chk_zero h0).1 hp.len (chk_zero h0).2.2)
  obtain ⟨pa, pc, rfl⟩ := hp.slice
  have hp1 := Lib.hid (hp.mono hb0)
  have hb1 := Lib.hid hb0
  have hrow := Lib.hid hr0
  have hlt := (Array.getElem?_eq_some_iff.1 hr0).1
  have hrows := Lib.hid (fun (wz : World) (h : Below W.heap.size W wz) => rowB hrow.out h hlt)
  have hS := Lib.hid (show ∀ (wz : World) (h : Below W.heap.size W wz), (fun wz => wz.cell? ⟨w.heap.size, 0, none⟩ = some (.int .u32 (o.au : Int)) ∧ wz.cell? ⟨w.heap.size, 1, none⟩ = some (.slice pa o.n pc) ∧ wz.cell? ⟨w.heap.size, 2, none⟩ = some (.int .u64 (o.st : Int)) ∧ wz.cell? ⟨w.heap.size, 3, none⟩ = some (.int .u8 o.k) ∧ wz.cell? ⟨w.heap.size, 4, none⟩ = some (.string o.key) ∧ wz.cell? ⟨w.heap.size, 5, none⟩ = some (.int .u8 o.v.k) ∧ wz.cell? ⟨w.heap.size, 6, none⟩ = some (.int .i64 o.v.n) ∧ wz.cell? ⟨w.heap.size, 7, none⟩ = some (.int .u64 (o.v.b : Int)) ∧ wz.cell? ⟨w.heap.size, 8, none⟩ = some (.string o.v.s) ∧ wz.cell? ⟨w.heap.size, 9, none⟩ = some (.int .u32 (o.e : Int)) ∧ wz.cell? ⟨w.heap.size, 10, none⟩ = some (.int .u32 (o.s : Int))) wz from fun wz h => cells11 (hrows.out wz h))
  have hK := Lib.hid (opCheck_any o fo (.slice pa o.n pc) W hp1.out)
  rw [h0] at hK
  have hM := Lib.hid (fun (wz : World) (hb : Below W.heap.size W wz) => message_any o fo (chk_zero h0).1 (chk_zero h0).2.1 (chk_zero h0).2.2 (.slice pa o.n pc) wz (hp1.out.mono hb))
  have hne := Lib.hid (fun (wz : World) => number_any o.e (by have := fo.e; omega) wz)
  have hns := Lib.hid (fun (wz : World) => number_any o.s (by have := fo.s; omega) wz)
  have le := Lib.hid (numL_le o.e (by have := fo.e; omega))
  have ls := Lib.hid (numL_le o.s (by have := fo.s; omega))
  have hwe := u64_nat o.e (by have := fo.e; omega)
  have hws := u64_nat o.s (by have := fo.s; omega)
  have he := Lib.hid (show encO o = (msgB o ++ numB o.e) ++ numB o.s from rfl)
  generalize encO o = EO at *
  generalize hme : msgB o = MB at *
  clear hr0 hb0 hp fo h0 hme
  go_enter Tryz.func64, Tryz.ntmps64
  go_upto_region 1 with fail
  rw [← hW]
  clear hW
  go_upto_region 4 with (first | (refine wpList_load_row_g rfl 35 _ rfl w.heap.size rfl 35 (o.c (.slice pa o.n pc)) (0, 0) _ hrow.out Tryz.underlying35 rfl info_op ?_) | (go_at_call 80; (with_reducible refine (hK.out).mono ?_); rintro e w3 ⟨rfl, h3⟩; have hB3 := Lib.hid h3; clear h3))
  have hB := Lib.hid (show Below W.heap.size W w3.drew from hB3.out.drew)
  have hB0 := Lib.hid (show W.heap.size ≤ w3.drew.heap.size from hB.out.size)
  obtain ⟨c0, c1, c2, c3, c4, c5, c6, c7, c8, c9, c10⟩ := hS.out w3 hB3.out
  obtain ⟨N5, hN5⟩ : ∃ N, (MB ++ numB o.e).length = N := ⟨_, rfl⟩
  have hN6 := Lib.hid (show N5 ≤ 400 by rw [← hN5, List.length_append, numB_length]; have h1 := hms.out; have h2 := le.out; omega)
  replace hN5 := Lib.hid hN5
  go_region_held3 (fun wz => wz.cell? ⟨w.heap.size, 0, none⟩ = some (.int .u32 (o.au : Int)) ∧ wz.cell? ⟨w.heap.size, 1, none⟩ = some (.slice pa o.n pc) ∧ wz.cell? ⟨w.heap.size, 2, none⟩ = some (.int .u64 (o.st : Int)) ∧ wz.cell? ⟨w.heap.size, 3, none⟩ = some (.int .u8 o.k) ∧ wz.cell? ⟨w.heap.size, 4, none⟩ = some (.string o.key) ∧ wz.cell? ⟨w.heap.size, 5, none⟩ = some (.int .u8 o.v.k) ∧ wz.cell? ⟨w.heap.size, 6, none⟩ = some (.int .i64 o.v.n) ∧ wz.cell? ⟨w.heap.size, 7, none⟩ = some (.int .u64 (o.v.b : Int)) ∧ wz.cell? ⟨w.heap.size, 8, none⟩ = some (.string o.v.s) ∧ wz.cell? ⟨w.heap.size, 9, none⟩ = some (.int .u32 (o.e : Int)) ∧ wz.cell? ⟨w.heap.size, 10, none⟩ = some (.int .u32 (o.s : Int))) (first | (exact hS.out _ hB.out) | go_keep)
    (first
      | (go_at_call 82; (with_reducible refine (hM.out _ hB.out).mono ?_); rintro e w4 ⟨sv, rfl, q1, q2⟩; (try replace hO := Lib.hid (hO.out.kept q2)); (try replace hr := Lib.hid (hr.out.mono q2)); replace hB := Lib.hid (hB.out.trans (Below.mono q2 hB.out.size)); have hO := Lib.hid (q1.mono hB0.out); obtain ⟨ma, mc, hmv⟩ := hO.out.rd.slice; subst hmv; clear q1 q2)
      | (go_at_call 113; (with_reducible refine (hne.out _).mono ?_); rintro e w4 ⟨rfl, q1, q2⟩; (try replace hO := Lib.hid (hO.out.kept q2)); (try replace hr := Lib.hid (hr.out.mono q2)); replace hB := Lib.hid (hB.out.trans (Below.mono q2 hB.out.size)); have hr := Lib.hid (rdB_row q1 _ (numB_length _) (Nat.le_trans le.out (by decide))); clear q1 q2)
      | (refine step_appendB (by rfl) _ _ 101 (by rfl) W.heap.size 5 Tryz.underlying101 (by kernel_rfl) _ (by rfl) MB hO.out _ (by rfl) (numB o.e) hr.out (by rw [numB_length]; have h1 := hms.out; have h2 := le.out; omega) (hB.out.size) ?_; intro v5 w5 h1 h2; replace hB := Lib.hid (hB.out.trans (hO.out.below h2 hB.out.size)); replace hO := Lib.hid h1; obtain ⟨na, nc, hnv⟩ := hO.out.rd.slice; rw [hN5.out] at hnv; subst hnv; clear h1 h2))
  all_goals
    clear c0 c1 c2 c3 c4 c5 c6 c7 c8 c9 c10 hr
    obtain ⟨c0, c1, c2, c3, c4, c5, c6, c7, c8, c9, c10⟩ := hS.out _ hB.out
    go_upto_region 5 with fail
    go_wp2_with (go_at_call 113; (with_reducible refine (hns.out _).mono ?_); rintro e w4 ⟨rfl, q1, q2⟩; (try replace hO := Lib.hid (hO.out.kept q2)); (try replace hr := Lib.hid (hr.out.mono q2)); replace hB := Lib.hid (hB.out.trans (Below.mono q2 hB.out.size)); have hr := Lib.hid (rdB_row q1 _ (numB_length _) (Nat.le_trans ls.out (by decide))); clear q1 q2; refine Stop.go'' _ ?_)
    refine StopP.go ?_
    go_wp2_with (refine appendB rfl _ _ 101 rfl W.heap.size 5 Tryz.underlying101 (by kernel_rfl) _ rfl (MB ++ numB o.e) hO.out _ rfl (numB o.s) hr.out (by rw [hN5.out, numB_length]; have h1 := hN6.out; have h3 := ls.out; omega) hB.out.size ?_)
    intro v6 w6 h1 h2
    replace hB := Lib.hid (hB.out.trans (hO.out.below h2 hB.out.size))
    replace hO := Lib.hid h1
    clear h1 h2
    refine Stop.go ?_
    go_wp2
    go_ret2
    exact ⟨_, rfl, by rw [he.out, List.append_assoc]; first | exact hO.out.mono hb1.out.size | (rw [← List.append_assoc]; exact hO.out.mono hb1.out.size), hb1.out.trans (hB.out.mono hb1.out.size)⟩
end Go.Proofs.YtlbgffhipondiaaGreatDoor.wir.val
namespace Go.Proofs.YtlbgffhipondiaaGreatDoor.wir.val
open Go.RowKit Go.YtlbgffhipondiaaGreatDoor
set_option linter.unusedVariables false
theorem bytes_one {x : Int} (h : 0 ≤ x ∧ x < 256) : Bytes [x] := bytes_mk_cons h (fun i => by simp [ith])
theorem sI_bytes0 (s : ByteArray) : Bytes (sI s) := fun i => by
  rcases Nat.lt_or_ge i s.size with h | h
  · rw [← sI_get s i h]
    have := s[i].toNat_lt
    omega
  · rw [ith_over _ _ (by rw [sI_length]; exact h)]; omega
theorem textB_bytes (s : ByteArray) (h : s.size ≤ 1000000) : Bytes (textB (sI s)) := by
  unfold textB
  exact bytes_append _ _ (numB_bytes _ (by rw [sI_length]; omega)) (sI_bytes0 s)
theorem encB_bytes0 {v : Va} (fv : v.fit) (hv : v.ok = true) : Bytes (encB v.k v.n v.b v.s) := by
  unfold encB
  split
  · exact bytes_mk_cons (by omega) (numB_bytes _ (fold_lt _ fv.n))
  · split
    · exact bytes_mk_cons (by omega) (be_bytes _ _)
    · exact bytes_mk_cons (by omega) (textB_bytes _ fv.s)
theorem bytes_nil : Bytes [] := fun i => by simp [ith]
theorem msgB_bytes (o : Od) (fo : o.Fit) (hn : o.n ≤ 4) (hA : actB o.k o.key o.v = true) : Bytes (msgB o) := by
  unfold msgB
  refine bytes_append _ _ (bytes_append _ _ (bytes_append _ _ (bytes_append _ _ (bytes_append _ _ (bytes_append _ _ (bytes_one (by omega)) (numB_bytes _ (by have := fo.au; omega))) (bytes_append _ _ (numB_bytes _ (by omega)) fo.F)) (numB_bytes _ fo.st)) (bytes_one fo.k)) ?_) ?_
  · split
    · exact bytes_nil
    · exact textB_bytes _ fo.key
  · split
    · rename_i hk
      rcases act_kinds hA with h | ⟨h, _⟩ | ⟨_, _, h⟩
      · rw [hk] at h; omega
      · rw [hk] at h; omega
      · exact encB_bytes0 fo.v h
    · exact bytes_nil
theorem encO_bytes (o : Od) (fo : o.Fit) (hn : o.n ≤ 4) (hA : actB o.k o.key o.v = true) : Bytes (encO o) :=
  bytes_append _ _ (bytes_append _ _ (msgB_bytes o fo hn hA) (numB_bytes _ (by have := fo.e; omega))) (numB_bytes _ (by have := fo.s; omega))
theorem encO_short (o : Od) (fo : o.Fit) (hn : o.n ≤ 4) (hl : o.F.length = 32 * o.n) (hA : actB o.k o.key o.v = true) : (encO o).length ≤ 400 := by
  have h1 := msgB_short o fo hn hl hA
  have h2 := numL_le o.e (by have := fo.e; omega)
  have h3 := numL_le o.s (by have := fo.s; omega)
  unfold encO
  rw [List.length_append, List.length_append, numB_length, numB_length]; omega
theorem info_id : (Tryz.prog.info? 24).map (·.size) = some 32 := by kernel_rfl
set_option maxHeartbeats 4000000 in
set_option maxRecDepth 100000 in
theorem opID_ok {Tg Tf : TypeId} (o : Od) (fo : o.Fit) (pv : Value) (w : World) (hp : RdI w pv o.n o.F) (h0 : chkO o = 0)
    (hg : w.heap[2]? = some (.cells (u32s constW) Tg (0, 0))) (hgf : w.heap[0]? = some (.cells firstW.cells Tf (0, 0))) :
    Calls Tryz.prog 16 #[.agg (o.c pv)] w fun e w' => e = .returned (.tuple #[.agg (u8s (shaF (encO o))), .int .i64 0]) ∧ Below w.heap.size w w' := by
  obtain ⟨W, hW⟩ : ∃ W, W = (w.alloc (.cells (o.c pv) 35)).alloc (.cells (u8s (zerosB 32)) 24) := ⟨_, rfl⟩
  have hr0 : W.heap[w.heap.size]? = some (.cells (o.c pv) 35 (0, 0)) := by rw [hW]; exact rowB (heap_alloc_new w _) (below_a _ _) (by simp)
  have hr1 : W.heap[w.heap.size + 1]? = some (.cells (u8s (zerosB 32)) 24 (0, 0)) := by rw [hW]; exact hn2 w _ _
  have hb0 : Below w.heap.size w W := by rw [hW]; exact ((Below.refl w.heap.size w).alloc (Nat.le_refl _) _).alloc (by simp) _
  obtain ⟨pa, pc, rfl⟩ := hp.slice
  have hb1 := Lib.hid hb0
  have hrow := Lib.hid hr0
  have hres := Lib.hid hr1
  have z := chk_zero h0
  have hE := Lib.hid (opEncode_ok o fo (.slice pa o.n pc) W (hp.mono hb0) h0)
  have hD := Lib.hid (fun (wz : World) (v : Value) (hb : Below W.heap.size W wz) (hv : RdB wz v (encO o)) => sum_any (Tg := Tg) (Tf := Tf) (shaF (encO o)) v (encO o) wz hv (encO_bytes o fo z.1 z.2.2) (Nat.le_trans (encO_short o fo z.1 hp.len z.2.2) (by decide)) rfl
    (rowB hg (hb0.trans (hb.mono hb0.size)) (Array.getElem?_eq_some_iff.1 hg).1) (rowB hgf (hb0.trans (hb.mono hb0.size)) (Array.getElem?_eq_some_iff.1 hgf).1))
  have hDl : (shaF (encO o)).length = 32 := shaF_length _
  generalize shaF (encO o) = D at *
  generalize encO o = EO at *
  have di := Lib.hid (show (Tryz.prog.info? 24).map (·.size) = some (u8s D).size by rw [u8s_size, hDl]; kernel_rfl)
  have ds := Lib.hid (show (u8s (zerosB 32)).size = (u8s D).size by rw [u8s_size, u8s_size, hDl, zerosB_length])
  clear hr0 hr1 hb0 hp fo hg hgf z h0 hDl
  go_enter Tryz.func16, Tryz.ntmps16
  go_upto_region 1 with fail
  rw [show ∀ x : Array Value, x = u8s (zerosB 32) → (w.alloc (.cells (o.c (.slice pa o.n pc)) 35)).alloc (.cells x 24) = W from fun x hx => by rw [hx, hW]]
  rotate_left
  · kernel_rfl
  clear hW
  go_wp2_with (first
    | (refine wpList_load_row_g rfl 35 _ rfl w.heap.size rfl 35 (o.c (.slice pa o.n pc)) (0, 0) _ hrow.out Tryz.underlying35 rfl info_op ?_)
    | (go_at_call 64; (with_reducible refine (hE.out).mono ?_); rintro e w3 ⟨sv, rfl, h2, h3⟩; have hb3 := Lib.hid h3; have hO := Lib.hid h2; have hD3 := Lib.hid (hD.out _ sv h3 h2.rd); have hres3 := Lib.hid (rowB hres.out h3 (Array.getElem?_eq_some_iff.1 hres.out).1); clear h2 h3)
    | (go_at_call 65; (with_reducible refine (hD3.out).mono ?_); rintro e w4 ⟨rfl, h3⟩; have hb4 := Lib.hid (hb3.out.trans (h3.mono hb3.out.size)); have hres4 := Lib.hid (rowB hres3.out h3 (Array.getElem?_eq_some_iff.1 hres3.out).1); clear h3)
    | (refine storeOver _ (w.heap.size + 1) _ rfl 24 _ _ rfl (u8s D) 24 hres4.out rfl rfl di.out ds.out (u8s_one _) ?_; intro w5 hr5 hb5; have hr5' := Lib.hid hr5; have hb5' := Lib.hid hb5; clear hr5 hb5))
  exact bodyPost_ret (results_row_tmp rfl _ _ (w.heap.size + 1) 24 _ _ _ rfl hr5'.out Tryz.underlying24 rfl di.out) rfl ⟨rfl, hb1.out.trans ((hb4.out.mono hb1.out.size).trans (hb5'.out.mono (by omega)))⟩
end Go.Proofs.YtlbgffhipondiaaGreatDoor.wir.val
namespace Go.Proofs.YtlbgffhipondiaaGreatDoor.wir.val
open Go.RowKit Go.YtlbgffhipondiaaGreatDoor
set_option linter.unusedVariables false
theorem valid_le {v : Va} (h : v.ok = true) : v.s.size ≤ 30 := by
  unfold Va.ok validV at h
  split at h
  · simp only [Bool.and_eq_true, decide_eq_true_eq] at h; omega
  · split at h
    · simp only [Bool.and_eq_true, decide_eq_true_eq] at h; omega
    · split at h
      · simp only [Bool.and_eq_true, decide_eq_true_eq] at h; omega
      · cases h
theorem own_grown {B B2 : Nat} {E : TypeId} {w w' : World} {v : Value} {l : List Int} {row : Option Nat} (h : OwnB B2 E w v l) (hg : w.grownBy w' row) (hne : ∀ k, row = some k → k < B2) : OwnB B2 E w' v l := by
  refine ⟨h.1, ?_⟩
  rcases h.2 with hn | ⟨k, cap, cur, rfl, hb, hk, rest⟩
  · exact .inl hn
  · exact .inr ⟨k, cap, cur, rfl, hb, (hg.block k (Array.getElem?_eq_some_iff.1 hk).1 (fun e => by have := hne k e.symm; omega)).trans hk, rest⟩
set_option maxHeartbeats 8000000 in
set_option maxRecDepth 100000 in
theorem rmsg_any (o : Od) (fo : o.Fit) (hn : o.n ≤ 4) (hA : actB o.k o.key o.v = true) (pv : Value) (w : World) (hp : RdI w pv o.n o.F) :
    Calls Tryz.prog 179 #[.agg (o.c pv)] w fun e w' => ∃ sv, e = .returned sv ∧ OwnB w.heap.size 5 w' sv (msgB o) ∧ Below w.heap.size w w' := by
  obtain ⟨W, hW⟩ : ∃ W, W = w.alloc (.cells (o.c pv) 35) := ⟨_, rfl⟩
  have hr0 := heap_alloc_new w (.cells (o.c pv) 35)
  have hb0 := (Below.refl w.heap.size w).alloc (Nat.le_refl _) (.cells (o.c pv) 35)
  rw [← hW] at hr0 hb0
  have hlF := Lib.hid hp.len
  obtain ⟨pa, pc, rfl⟩ := hp.slice
  have hb1 := Lib.hid hb0
  have hlt := Lib.hid hb0.size
  have hrow := Lib.hid hr0
  have hmids := Lib.hid (fun (wz : World) (h : Below W.heap.size W wz) => (cellsP (rowB hrow.out h (Array.getElem?_eq_some_iff.1 hr0).1)))
  have kc := fun (w : World) => run_bytes_of_string (P := Tryz.prog) w 9 101 5 o.key Tryz.underlying9 Tryz.underlying101 Tryz.underlying5
  have hau := u64_nat o.au (by have := fo.au; omega)
  have hid := Lib.hid (fun (wz : World) (h : Below W.heap.size W wz) => rlist_any o.F o.n (.slice pa o.n pc) wz ((hp.mono hb0).mono h) (by omega))
  have hnu := Lib.hid (fun (wz : World) => rnum_any o.au (by have := fo.au; omega) wz)
  have hns := Lib.hid (fun (wz : World) => rnum_any o.st fo.st wz)
  have la := Lib.hid (numL_le o.au (by have := fo.au; omega))
  have ls := Lib.hid (numL_le o.st fo.st)
  have ln := Lib.hid (numL_le o.n (by omega))
  have hkinds := Lib.hid (act_kinds hA)
  have hT := Lib.hid (fun (hs : o.key.size ≤ 20) (W : World) (m : Nat × Nat) => rtext4_any _ (sI o.key) _ (rd_strI W o.key (by omega) m) (by rw [sI_length]; omega))
  have hE := Lib.hid (fun (hv : o.v.ok = true) (wz : World) => rBytes_any o.v.k o.v.n o.v.b o.v.s fo.v hv (Nat.le_trans (valid_le hv) (by decide)) wz)
  have hEl := Lib.hid (fun (hv : o.v.ok = true) => encB_short fo.v hv)
  have hnn := Lib.hid hn
  clear hr0 hb0 hp hrow fo hA hn
  go_enter Tryz.func179, Tryz.ntmps179
  go_upto_region 1 with fail
  rw [← hW]
  clear hW
  have hO := Lib.hid (ownB_row (cs := [111]) (heap_alloc_new W (.cells #[.int .u8 111] 5)) 1 rfl (by decide) (Nat.le_refl W.heap.size))
  have hB := Lib.hid (below_a W (.cells #[.int .u8 111] 5))
  obtain ⟨c0, c1, c2, c3, c4, c5⟩ := hmids.out _ (Below.refl _ _)
  obtain ⟨d0, _, _, _, _, _⟩ := hmids.out _ hB.out
  have hN := Lib.hid (show ([111] : List Int).length ≤ 1 from Nat.le_refl _)
  go_wp2_with (go_at_call 184; (with_reducible refine (hnu.out _).mono ?_); rintro e w4 ⟨z4, rfl, q1, q2⟩; (try replace hO := Lib.hid (hO.out.kept q2)); (try replace hr := Lib.hid (hr.out.kept q2)); (try replace hl := Lib.hid (hl.out.kept q2)); replace hB := Lib.hid (hB.out.trans (Below.mono q2 hB.out.size)); have hr := Lib.hid q1; obtain ⟨ahr, bhr, hz4⟩ := hr.out.rd.slice; rw [numB_length] at hz4; subst hz4; clear q1 q2; refine Stop.go'' _ ?_)
  refine StopP.go ?_
  clear d0
  have hrl := Lib.hid (show (numB o.au).length ≤ 9 by rw [numB_length]; exact la.out)
  go_wp2_with (refine appendB rfl _ _ 101 rfl W.heap.size 5 Tryz.underlying101 (by kernel_rfl) _ rfl [111] hO.out _ rfl (numB o.au) hr.out.rd (by have h1 := hN.out; have h2 := hrl.out; omega) hB.out.size ?_)
  intro v5 w5 h1 h2
  replace hB := Lib.hid (hB.out.trans (hO.out.below h2 hB.out.size))
  replace hO := Lib.hid (show OwnB W.heap.size 5 w5 v5 ([111] ++ (numB o.au)) from by simpa only [List.append_assoc, List.cons_append, List.nil_append, List.singleton_append] using h1)
  replace hN := Lib.hid (show ([111] ++ (numB o.au)).length ≤ 20 by have h1 := hN.out; have h2 := hrl.out; rw [List.length_append]; omega)
  obtain ⟨N1, hN1⟩ : ∃ N, ([111] ++ (numB o.au)).length = N := ⟨_, rfl⟩
  obtain ⟨pbN1, qbN1, hz⟩ := hO.out.rd.slice
  rw [hN1] at hz
  subst hz
  replace hN1 := Lib.hid hN1
  clear h1 h2 hrl
  refine Stop.go ?_
  clear hr
  go_upto_region 2 with fail
  clear c0 c1 c2 c3 c4 c5
  obtain ⟨c0, c1, c2, c3, c4, c5⟩ := hmids.out _ hB.out
  have hll := Lib.hid (show (numB o.n ++ o.F).length = numL o.n + 32 * o.n by rw [List.length_append, numB_length, hlF.out])
  obtain ⟨NL, hNL⟩ : ∃ N, (numB o.n ++ o.F).length = N := ⟨_, rfl⟩
  obtain ⟨N2, hN2⟩ : ∃ N, (([111] ++ numB o.au) ++ (numB o.n ++ o.F)).length = N := ⟨_, rfl⟩
  obtain ⟨N3, hN3⟩ : ∃ N, ((([111] ++ numB o.au) ++ (numB o.n ++ o.F)) ++ numB o.st).length = N := ⟨_, rfl⟩
  have k1 := Lib.hid (show NL ≤ 140 by rw [← hNL, hll.out]; have h1 := ln.out; have h2 := hnn.out; omega)
  have k2 := Lib.hid (show N2 ≤ 200 by rw [← hN2, List.length_append, hNL]; have h1 := hN.out; have h2 := k1.out; omega)
  have k3 := Lib.hid (show N3 ≤ 220 by rw [← hN3, List.length_append, hN2, numB_length]; have h1 := k2.out; have h2 := ls.out; omega)
  replace hNL := Lib.hid hNL; replace hN2 := Lib.hid hN2; replace hN3 := Lib.hid hN3
  have hS := Lib.hid (show ∀ (wz : World) (h : Below W.heap.size W wz), (fun wz => wz.cell? ⟨w.heap.size, 1, none⟩ = some (.slice pa o.n pc) ∧ wz.cell? ⟨w.heap.size, 2, none⟩ = some (.int .u64 (o.st : Int))) wz from fun wz h => ⟨(hmids.out wz h).2.1, (hmids.out wz h).2.2.1⟩)
  replace hB := Lib.hid (show Below W.heap.size W w5.drew from hB.out.drew)
  replace hO := Lib.hid (show OwnB W.heap.size 5 w5.drew _ ([111] ++ numB o.au) from hO.out)
  go_region_held3 (fun wz => wz.cell? ⟨w.heap.size, 1, none⟩ = some (.slice pa o.n pc) ∧ wz.cell? ⟨w.heap.size, 2, none⟩ = some (.int .u64 (o.st : Int))) (first | (exact hS.out _ hB.out) | go_keep)
    (first | (go_at_call 213; (with_reducible refine (hid.out _ hB.out).mono ?_); rintro e w4 ⟨z4, rfl, q1, q2⟩; (try replace hO := Lib.hid (hO.out.kept q2)); (try replace hr := Lib.hid (hr.out.kept q2)); (try replace hl := Lib.hid (hl.out.kept q2)); replace hB := Lib.hid (hB.out.trans (Below.mono q2 hB.out.size)); have hl := Lib.hid q1; obtain ⟨ahl, bhl, hz4⟩ := hl.out.rd.slice; rw [hNL.out] at hz4; subst hz4; clear q1 q2) | (go_at_call 184; (with_reducible refine (hns.out _).mono ?_); rintro e w4 ⟨z4, rfl, q1, q2⟩; have hne := Lib.hid (fun k hk => (World.ownsRow.lt hO.out k hk).2); (try replace hO := Lib.hid (hO.out.kept q2)); (try replace hr := Lib.hid (hr.out.kept q2)); (try replace hl := Lib.hid (hl.out.kept q2)); replace hB := Lib.hid (hB.out.trans (Below.mono q2 hB.out.size)); have hr := Lib.hid q1; obtain ⟨ahr, bhr, hz4⟩ := hr.out.rd.slice; rw [numB_length] at hz4; subst hz4; clear q1 q2) | (refine step_appendB (by rfl) _ _ 101 (by rfl) W.heap.size 5 Tryz.underlying101 (by kernel_rfl) (.slice pbN1 N1 qbN1) (by rfl) ([111] ++ numB o.au) hO.out _ (by rfl) (numB o.n ++ o.F) hl.out.rd (by rw [hN1.out, hNL.out]; have h1 := hN.out; rw [hN1.out] at h1; have h2 := k1.out; omega) hB.out.size ?_; intro v5 w5 h1 h2; (try replace hr := Lib.hid (own_grown hr.out h2 hne.out)); replace hB := Lib.hid (hB.out.trans (hO.out.below h2 hB.out.size)); replace hO := Lib.hid (show OwnB W.heap.size 5 w5 v5 (([111] ++ numB o.au) ++ (numB o.n ++ o.F)) from h1); obtain ⟨pbN2, qbN2, hz5⟩ := hO.out.rd.slice; rw [hN2.out] at hz5; subst hz5; clear h1 h2) | (refine step_appendB (by rfl) _ _ 101 (by rfl) W.heap.size 5 Tryz.underlying101 (by kernel_rfl) (.slice pbN2 N2 qbN2) (by rfl) (([111] ++ numB o.au) ++ (numB o.n ++ o.F)) hO.out _ (by rfl) (numB o.st) hr.out.rd (by rw [hN2.out, numB_length]; have h1 := k2.out; have h2 := ls.out; omega) hB.out.size ?_; intro v5 w5 h1 h2; replace hB := Lib.hid (hB.out.trans (hO.out.below h2 hB.out.size)); replace hO := Lib.hid (show OwnB W.heap.size 5 w5 v5 ((([111] ++ numB o.au) ++ (numB o.n ++ o.F)) ++ (numB o.st)) from h1); obtain ⟨pbN3, qbN3, hz5⟩ := hO.out.rd.slice; rw [hN3.out] at hz5; subst hz5; clear h1 h2))
  all_goals
    clear c0 c1 c2 c3 c4 c5
    try clear hHeld
    obtain ⟨c0, c1, c2, c3, c4, c5⟩ := hmids.out _ hB.out
    go_upto_region 3 with fail
    have hN := Lib.hid (show ((([111] ++ numB o.au) ++ (numB o.n ++ o.F)) ++ numB o.st).length ≤ 220 by rw [hN3.out]; exact k3.out)
    clear hr hl
    go_wp2_with (refine appendB rfl _ _ 101 rfl W.heap.size 5 Tryz.underlying101 (by kernel_rfl) _ rfl ((([111] ++ numB o.au) ++ (numB o.n ++ o.F)) ++ numB o.st) (hO.out.kept (below_a _ (.cells #[.int .u8 o.k] 5))) _ rfl [o.k] (rd_one' _ _) (by have h1 := hN.out; simp only [List.length_cons, List.length_nil]; omega) (hB.out.alloc hB.out.size (.cells #[.int .u8 o.k] 5)).size ?_)
    intro v6 w6 h1 h2
    replace hB := Lib.hid ((hB.out.alloc hB.out.size (.cells #[.int .u8 o.k] 5)).trans ((hO.out.kept (below_a _ (.cells #[.int .u8 o.k] 5))).below h2 (hB.out.alloc hB.out.size (.cells #[.int .u8 o.k] 5)).size))
    replace hO := Lib.hid (show OwnB W.heap.size 5 w6 v6 (((([111] ++ numB o.au) ++ (numB o.n ++ o.F)) ++ numB o.st) ++ [o.k]) from by simpa only [List.append_assoc, List.cons_append, List.nil_append, List.singleton_append] using h1)
    replace hN := Lib.hid (show (((([111] ++ numB o.au) ++ (numB o.n ++ o.F)) ++ numB o.st) ++ [o.k]).length ≤ 221 by have h1 := hN.out; rw [List.length_append, List.length_singleton]; omega)
    obtain ⟨N4, hN4⟩ : ∃ N, (((([111] ++ numB o.au) ++ (numB o.n ++ o.F)) ++ numB o.st) ++ [o.k]).length = N := ⟨_, rfl⟩
    obtain ⟨pbN4, qbN4, hz⟩ := hO.out.rd.slice
    rw [hN4] at hz
    subst hz
    replace hN4 := Lib.hid hN4
    clear h1 h2 c0 c1 c2 c3 c4 c5
    obtain ⟨c0, c1, c2, c3, c4, c5⟩ := hmids.out _ hB.out
    refine Stop.go ?_
    go_upto_region 4 with fail
    rcases hkinds.out with hk | ⟨hk, hks⟩ | ⟨hk, hks, hv⟩
    · replace hk := Lib.hid hk
      have k1 : (o.k != 1) = false := by rw [hk.out]; rfl
      have k4 : (o.k == 4) = false := by rw [hk.out]; rfl
      go_wp2
      go_ret
      have he : msgB o = (((([111] ++ numB o.au) ++ (numB o.n ++ o.F)) ++ numB o.st) ++ [o.k]) := by unfold msgB; rw [if_pos hk.out, if_neg (by rw [hk.out]; decide), List.append_nil, List.append_nil]
      exact ⟨_, rfl, by rw [he]; exact hO.out.mono hlt.out, hb1.out.trans (hB.out.mono hb1.out.size)⟩
    · replace hk := Lib.hid hk
      have k1 : (o.k != 1) = true := by rcases hk.out with hk | hk <;> (rw [hk]; rfl)
      have k4 : (o.k == 4) = false := by rcases hk.out with hk | hk <;> (rw [hk]; rfl)
      go_wp2_with (go_at_call 214; (refine (hT.out hks w6 _).mono ?_); rintro e w4 ⟨z4, rfl, q1, q2⟩; (try replace hO := Lib.hid (hO.out.kept ((show Below w6.heap.size w6 (w6.drew.alloc _) from (Below.refl _ _).drew.alloc (Nat.le_refl _) _).trans (q2.mono (by simp))))); (try replace hr := Lib.hid (hr.out.kept ((show Below w6.heap.size w6 (w6.drew.alloc _) from (Below.refl _ _).drew.alloc (Nat.le_refl _) _).trans (q2.mono (by simp))))); (try replace hl := Lib.hid (hl.out.kept ((show Below w6.heap.size w6 (w6.drew.alloc _) from (Below.refl _ _).drew.alloc (Nat.le_refl _) _).trans (q2.mono (by simp))))); replace hB := Lib.hid (hB.out.trans (Below.mono ((show Below w6.heap.size w6 (w6.drew.alloc _) from (Below.refl _ _).drew.alloc (Nat.le_refl _) _).trans (q2.mono (by simp))) hB.out.size)); have hr := Lib.hid (q1.rd); clear q1 q2; refine Stop.go'' _ ?_)
      refine StopP.go ?_
      clear c0 c1 c2 c3 c4 c5
      obtain ⟨c0, c1, c2, c3, c4, c5⟩ := hmids.out _ hB.out
      have hrl := Lib.hid (show (textB (sI o.key)).length ≤ 30 by rw [textB_length, sI_length]; have := numL_le o.key.size (by omega); omega)
      go_wp2_with (refine appendB rfl _ _ 101 rfl W.heap.size 5 Tryz.underlying101 (by kernel_rfl) _ rfl (((([111] ++ numB o.au) ++ (numB o.n ++ o.F)) ++ numB o.st) ++ [o.k]) hO.out _ rfl (textB (sI o.key)) hr.out (by have h1 := hN.out; have h2 := hrl.out; omega) hB.out.size ?_)
      intro v5 w5 h1 h2
      replace hB := Lib.hid (hB.out.trans (hO.out.below h2 hB.out.size))
      replace hO := Lib.hid (show OwnB W.heap.size 5 w5 v5 ((((([111] ++ numB o.au) ++ (numB o.n ++ o.F)) ++ numB o.st) ++ [o.k]) ++ (textB (sI o.key))) from by simpa only [List.append_assoc, List.cons_append, List.nil_append, List.singleton_append] using h1)
      replace hN := Lib.hid (show ((((([111] ++ numB o.au) ++ (numB o.n ++ o.F)) ++ numB o.st) ++ [o.k]) ++ (textB (sI o.key))).length ≤ 260 by have h1 := hN.out; have h2 := hrl.out; rw [List.length_append]; omega)
      obtain ⟨N5, hN5⟩ : ∃ N, ((((([111] ++ numB o.au) ++ (numB o.n ++ o.F)) ++ numB o.st) ++ [o.k]) ++ (textB (sI o.key))).length = N := ⟨_, rfl⟩
      obtain ⟨pbN5, qbN5, hz⟩ := hO.out.rd.slice
      rw [hN5] at hz
      subst hz
      replace hN5 := Lib.hid hN5
      clear h1 h2 hrl
      refine Stop.go ?_
      clear hr c0 c1 c2 c3 c4 c5
      obtain ⟨c0, c1, c2, c3, c4, c5⟩ := hmids.out _ hB.out
      go_wp2
      go_ret
      have he : msgB o = ((((([111] ++ numB o.au) ++ (numB o.n ++ o.F)) ++ numB o.st) ++ [o.k]) ++ textB (sI o.key)) := by unfold msgB; rw [if_neg (by rcases hk.out with hk | hk <;> (rw [hk]; decide)), if_neg (by rcases hk.out with hk | hk <;> (rw [hk]; decide)), List.append_nil]
      exact ⟨_, rfl, by rw [he]; exact hO.out.mono hlt.out, hb1.out.trans (hB.out.mono hb1.out.size)⟩
    · replace hk := Lib.hid hk
      have k1 : (o.k != 1) = true := by rw [hk.out]; rfl
      have k4 : (o.k == 4) = true := by rw [hk.out]; rfl
      go_wp2_with (go_at_call 214; (refine (hT.out hks w6 _).mono ?_); rintro e w4 ⟨z4, rfl, q1, q2⟩; (try replace hO := Lib.hid (hO.out.kept ((show Below w6.heap.size w6 (w6.drew.alloc _) from (Below.refl _ _).drew.alloc (Nat.le_refl _) _).trans (q2.mono (by simp))))); (try replace hr := Lib.hid (hr.out.kept ((show Below w6.heap.size w6 (w6.drew.alloc _) from (Below.refl _ _).drew.alloc (Nat.le_refl _) _).trans (q2.mono (by simp))))); (try replace hl := Lib.hid (hl.out.kept ((show Below w6.heap.size w6 (w6.drew.alloc _) from (Below.refl _ _).drew.alloc (Nat.le_refl _) _).trans (q2.mono (by simp))))); replace hB := Lib.hid (hB.out.trans (Below.mono ((show Below w6.heap.size w6 (w6.drew.alloc _) from (Below.refl _ _).drew.alloc (Nat.le_refl _) _).trans (q2.mono (by simp))) hB.out.size)); have hr := Lib.hid (q1.rd); clear q1 q2; refine Stop.go'' _ ?_)
      refine StopP.go ?_
      clear c0 c1 c2 c3 c4 c5
      obtain ⟨c0, c1, c2, c3, c4, c5⟩ := hmids.out _ hB.out
      have hrl := Lib.hid (show (textB (sI o.key)).length ≤ 30 by rw [textB_length, sI_length]; have := numL_le o.key.size (by omega); omega)
      go_wp2_with (refine appendB rfl _ _ 101 rfl W.heap.size 5 Tryz.underlying101 (by kernel_rfl) _ rfl (((([111] ++ numB o.au) ++ (numB o.n ++ o.F)) ++ numB o.st) ++ [o.k]) hO.out _ rfl (textB (sI o.key)) hr.out (by have h1 := hN.out; have h2 := hrl.out; omega) hB.out.size ?_)
      intro v5 w5 h1 h2
      replace hB := Lib.hid (hB.out.trans (hO.out.below h2 hB.out.size))
      replace hO := Lib.hid (show OwnB W.heap.size 5 w5 v5 ((((([111] ++ numB o.au) ++ (numB o.n ++ o.F)) ++ numB o.st) ++ [o.k]) ++ (textB (sI o.key))) from by simpa only [List.append_assoc, List.cons_append, List.nil_append, List.singleton_append] using h1)
      replace hN := Lib.hid (show ((((([111] ++ numB o.au) ++ (numB o.n ++ o.F)) ++ numB o.st) ++ [o.k]) ++ (textB (sI o.key))).length ≤ 260 by have h1 := hN.out; have h2 := hrl.out; rw [List.length_append]; omega)
      obtain ⟨N5, hN5⟩ : ∃ N, ((((([111] ++ numB o.au) ++ (numB o.n ++ o.F)) ++ numB o.st) ++ [o.k]) ++ (textB (sI o.key))).length = N := ⟨_, rfl⟩
      obtain ⟨pbN5, qbN5, hz⟩ := hO.out.rd.slice
      rw [hN5] at hz
      subst hz
      replace hN5 := Lib.hid hN5
      clear h1 h2 hrl
      refine Stop.go ?_
      clear hr c0 c1 c2 c3 c4 c5
      obtain ⟨c0, c1, c2, c3, c4, c5⟩ := hmids.out _ hB.out
      have hrl := Lib.hid (hEl.out hv)
      go_wp2_with (first | (go_at_call 215; (with_reducible refine (hE.out hv _).mono ?_); rintro e w4 ⟨z4, rfl, q1, q2⟩; (try replace hO := Lib.hid (hO.out.kept q2)); (try replace hr := Lib.hid (hr.out.kept q2)); (try replace hl := Lib.hid (hl.out.kept q2)); replace hB := Lib.hid (hB.out.trans (Below.mono q2 hB.out.size)); have hr := Lib.hid (q1.rd); clear q1 q2; refine Stop.go'' _ ?_) | (refine wpList_midV rfl 29 _ rfl w.heap.size 5 rfl o.v.l _ c5 Tryz.underlying29 rfl info_val ?_))
      refine StopP.go ?_
      clear c0 c1 c2 c3 c4 c5
      go_wp2_with (refine appendB rfl _ _ 101 rfl W.heap.size 5 Tryz.underlying101 (by kernel_rfl) _ rfl ((((([111] ++ numB o.au) ++ (numB o.n ++ o.F)) ++ numB o.st) ++ [o.k]) ++ textB (sI o.key)) hO.out _ rfl (encB o.v.k o.v.n o.v.b o.v.s) hr.out (by have h1 := hN.out; have h2 := hrl.out; omega) hB.out.size ?_)
      intro v5 w5 h1 h2
      replace hB := Lib.hid (hB.out.trans (hO.out.below h2 hB.out.size))
      replace hO := Lib.hid (show OwnB W.heap.size 5 w5 v5 (((((([111] ++ numB o.au) ++ (numB o.n ++ o.F)) ++ numB o.st) ++ [o.k]) ++ textB (sI o.key)) ++ (encB o.v.k o.v.n o.v.b o.v.s)) from by simpa only [List.append_assoc, List.cons_append, List.nil_append, List.singleton_append] using h1)
      replace hN := Lib.hid (show (((((([111] ++ numB o.au) ++ (numB o.n ++ o.F)) ++ numB o.st) ++ [o.k]) ++ textB (sI o.key)) ++ (encB o.v.k o.v.n o.v.b o.v.s)).length ≤ 400 by have h1 := hN.out; have h2 := hrl.out; rw [List.length_append]; omega)
      obtain ⟨N6, hN6⟩ : ∃ N, (((((([111] ++ numB o.au) ++ (numB o.n ++ o.F)) ++ numB o.st) ++ [o.k]) ++ textB (sI o.key)) ++ (encB o.v.k o.v.n o.v.b o.v.s)).length = N := ⟨_, rfl⟩
      obtain ⟨pbN6, qbN6, hz⟩ := hO.out.rd.slice
      rw [hN6] at hz
      subst hz
      replace hN6 := Lib.hid hN6
      clear h1 h2 hrl
      refine Stop.go ?_
      clear hr
      go_wp2
      go_ret
      have he : msgB o = (((((([111] ++ numB o.au) ++ (numB o.n ++ o.F)) ++ numB o.st) ++ [o.k]) ++ textB (sI o.key)) ++ encB o.v.k o.v.n o.v.b o.v.s) := by unfold msgB; rw [if_neg (by rw [hk.out]; decide), if_pos hk.out]
      exact ⟨_, rfl, by rw [he]; exact hO.out.mono hlt.out, hb1.out.trans (hB.out.mono hb1.out.size)⟩
end Go.Proofs.YtlbgffhipondiaaGreatDoor.wir.val
namespace Go.Proofs.YtlbgffhipondiaaGreatDoor.wir.val
open Go.RowKit Go.YtlbgffhipondiaaGreatDoor
set_option linter.unusedVariables false
theorem disj {B1 : Nat} {E1 E2 : TypeId} {w1 w2 : World} {v1 v2 : Value} {l1 l2 : List Int} (h1 : OwnB B1 E1 w1 v1 l1) (h2 : OwnB w1.heap.size E2 w2 v2 l2) : ∀ k, v1.ownBlock = some k → v2.ownBlock ≠ some k := fun k hk hk2 => by
  have a := (World.ownsRow.lt h1 k hk).2
  have b := (World.ownsRow.lt h2 k hk2).1
  omega
theorem own_apart {B : Nat} {E : TypeId} {w w' : World} {v : Value} {l : List Int} {row : Option Nat} (h : OwnB B E w v l) (hg : w.grownBy w' row) (hne : ∀ k, row = some k → v.ownBlock ≠ some k) : OwnB B E w' v l := by
  refine ⟨h.1, ?_⟩
  rcases h.2 with hn | ⟨k, cap, cur, rfl, hb, hk, rest⟩
  · exact .inl hn
  · exact .inr ⟨k, cap, cur, rfl, hb, (hg.block k (Array.getElem?_eq_some_iff.1 hk).1 (fun e => hne k e.symm rfl)).trans hk, rest⟩
set_option maxHeartbeats 8000000 in
set_option maxRecDepth 100000 in
theorem rBytesO_any (o : Od) (fo : o.Fit) (hn : o.n ≤ 4) (hA : actB o.k o.key o.v = true) (pv : Value) (w : World) (hp : RdI w pv o.n o.F) :
    Calls Tryz.prog 134 #[.agg (o.c pv)] w fun e w' => ∃ sv, e = .returned sv ∧ OwnB w.heap.size 5 w' sv (encO o) ∧ Below w.heap.size w w' := by
  obtain ⟨W, hW⟩ : ∃ W, W = w.alloc (.cells (o.c pv) 35) := ⟨_, rfl⟩
  have hr0 := heap_alloc_new w (.cells (o.c pv) 35)
  have hb0 := (Below.refl w.heap.size w).alloc (Nat.le_refl _) (.cells (o.c pv) 35)
  rw [← hW] at hr0 hb0
  have hms := Lib.hid (msgB_short o fo hn hp.len hA)
  obtain ⟨pa, pc, rfl⟩ := hp.slice
  have hb1 := Lib.hid hb0
  have hrow := Lib.hid hr0
  have hlt := (Array.getElem?_eq_some_iff.1 hr0).1
  have hS := Lib.hid (show ∀ (wz : World) (h : Below W.heap.size W wz), (fun wz => wz.cell? ⟨w.heap.size, 0, none⟩ = some (.int .u32 (o.au : Int)) ∧ wz.cell? ⟨w.heap.size, 1, none⟩ = some (.slice pa o.n pc) ∧ wz.cell? ⟨w.heap.size, 2, none⟩ = some (.int .u64 (o.st : Int)) ∧ wz.cell? ⟨w.heap.size, 3, none⟩ = some (.int .u8 o.k) ∧ wz.cell? ⟨w.heap.size, 4, none⟩ = some (.string o.key) ∧ wz.cell? ⟨w.heap.size, 5, none⟩ = some (.int .u8 o.v.k) ∧ wz.cell? ⟨w.heap.size, 6, none⟩ = some (.int .i64 o.v.n) ∧ wz.cell? ⟨w.heap.size, 7, none⟩ = some (.int .u64 (o.v.b : Int)) ∧ wz.cell? ⟨w.heap.size, 8, none⟩ = some (.string o.v.s) ∧ wz.cell? ⟨w.heap.size, 9, none⟩ = some (.int .u32 (o.e : Int)) ∧ wz.cell? ⟨w.heap.size, 10, none⟩ = some (.int .u32 (o.s : Int))) wz from fun wz h => cells11 (rowB hrow.out h hlt))
  have hM := Lib.hid (fun (wz : World) (hb : Below W.heap.size W wz) => rmsg_any o fo hn hA (.slice pa o.n pc) wz ((hp.mono hb0).mono hb))
  have hne := Lib.hid (fun (wz : World) => rnum_any o.e (by have := fo.e; omega) wz)
  have hns := Lib.hid (fun (wz : World) => rnum_any o.s (by have := fo.s; omega) wz)
  have le := Lib.hid (numL_le o.e (by have := fo.e; omega))
  have ls := Lib.hid (numL_le o.s (by have := fo.s; omega))
  have hwe := u64_nat o.e (by have := fo.e; omega)
  have hws := u64_nat o.s (by have := fo.s; omega)
  have he := Lib.hid (show encO o = (msgB o ++ numB o.e) ++ numB o.s from rfl)
  generalize encO o = EO at *
  generalize hme : msgB o = MB at *
  clear hr0 hb0 hp fo hn hA hme
  obtain ⟨N5, hN5⟩ : ∃ N, (MB ++ numB o.e).length = N := ⟨_, rfl⟩
  have hN6 := Lib.hid (show N5 ≤ 400 by rw [← hN5, List.length_append, numB_length]; have h1 := hms.out; have h2 := le.out; omega)
  obtain ⟨N7, hN7⟩ : ∃ N, ((MB ++ numB o.e) ++ numB o.s).length = N := ⟨_, rfl⟩
  replace hN5 := Lib.hid hN5
  replace hN7 := Lib.hid hN7
  go_enter Tryz.func134, Tryz.ntmps134
  go_upto_region 1 with fail
  rw [← hW]
  clear hW
  have hB := Lib.hid (show Below W.heap.size W W.drew from (Below.refl _ _).drew)
  have hB0 := Lib.hid (show W.heap.size ≤ W.drew.heap.size from hB.out.size)
  obtain ⟨c0, c1, c2, c3, c4, c5, c6, c7, c8, c9, c10⟩ := hS.out W (Below.refl _ _)
  go_region_held3 (fun wz => wz.cell? ⟨w.heap.size, 0, none⟩ = some (.int .u32 (o.au : Int)) ∧ wz.cell? ⟨w.heap.size, 1, none⟩ = some (.slice pa o.n pc) ∧ wz.cell? ⟨w.heap.size, 2, none⟩ = some (.int .u64 (o.st : Int)) ∧ wz.cell? ⟨w.heap.size, 3, none⟩ = some (.int .u8 o.k) ∧ wz.cell? ⟨w.heap.size, 4, none⟩ = some (.string o.key) ∧ wz.cell? ⟨w.heap.size, 5, none⟩ = some (.int .u8 o.v.k) ∧ wz.cell? ⟨w.heap.size, 6, none⟩ = some (.int .i64 o.v.n) ∧ wz.cell? ⟨w.heap.size, 7, none⟩ = some (.int .u64 (o.v.b : Int)) ∧ wz.cell? ⟨w.heap.size, 8, none⟩ = some (.string o.v.s) ∧ wz.cell? ⟨w.heap.size, 9, none⟩ = some (.int .u32 (o.e : Int)) ∧ wz.cell? ⟨w.heap.size, 10, none⟩ = some (.int .u32 (o.s : Int))) (first | (exact hS.out _ hB.out) | go_keep)
    (first
      | (go_at_call 179; (with_reducible refine (hM.out _ hB.out).mono ?_); rintro e w4 ⟨z4, rfl, q1, q2⟩; (try have hd2 := Lib.hid (fun k hk hk2 => disj hr2.out q1 k hk2 hk)); (try replace hO := Lib.hid (hO.out.kept q2)); (try replace hr1 := Lib.hid (hr1.out.kept q2)); (try replace hr2 := Lib.hid (hr2.out.kept q2)); replace hB := Lib.hid (hB.out.trans (Below.mono q2 hB.out.size)); have hO := Lib.hid (q1.mono hB0.out); obtain ⟨ma, mc, hz4⟩ := hO.out.rd.slice; subst hz4; clear q1 q2)
      | (go_at_call 184; (with_reducible refine (hne.out _).mono ?_); rintro e w4 ⟨z4, rfl, q1, q2⟩; (try replace hO := Lib.hid (hO.out.kept q2)); (try replace hr1 := Lib.hid (hr1.out.kept q2)); (try replace hr2 := Lib.hid (hr2.out.kept q2)); replace hB := Lib.hid (hB.out.trans (Below.mono q2 hB.out.size)); have hr1 := Lib.hid q1; obtain ⟨ahr1, bhr1, hz4⟩ := hr1.out.rd.slice; rw [numB_length] at hz4; subst hz4; clear q1 q2)
      | (go_at_call 184; (with_reducible refine (hns.out _).mono ?_); rintro e w4 ⟨z4, rfl, q1, q2⟩; (try have hd2 := Lib.hid (disj hO.out q1)); (try replace hO := Lib.hid (hO.out.kept q2)); (try replace hr1 := Lib.hid (hr1.out.kept q2)); (try replace hr2 := Lib.hid (hr2.out.kept q2)); replace hB := Lib.hid (hB.out.trans (Below.mono q2 hB.out.size)); have hr2 := Lib.hid q1; obtain ⟨ahr2, bhr2, hz4⟩ := hr2.out.rd.slice; rw [numB_length] at hz4; subst hz4; clear q1 q2)
      | (refine step_appendB (by rfl) _ _ 101 (by rfl) W.heap.size 5 Tryz.underlying101 (by kernel_rfl) (.slice ma MB.length mc) (by rfl) MB hO.out _ (by rfl) (numB o.e) hr1.out.rd (by rw [numB_length]; have h1 := hms.out; have h2 := le.out; omega) hB.out.size ?_; intro v5 w5 h1 h2; (try replace hr2 := Lib.hid (own_apart hr2.out h2 hd2.out)); replace hB := Lib.hid (hB.out.trans (hO.out.below h2 hB.out.size)); replace hO := Lib.hid (show OwnB W.heap.size 5 w5 v5 (MB ++ (numB o.e)) from h1); obtain ⟨pbN5, qbN5, hz5⟩ := hO.out.rd.slice; rw [hN5.out] at hz5; subst hz5; clear h1 h2)
      | (refine step_appendB (by rfl) _ _ 101 (by rfl) W.heap.size 5 Tryz.underlying101 (by kernel_rfl) (.slice pbN5 N5 qbN5) (by rfl) (MB ++ numB o.e) hO.out _ (by rfl) (numB o.s) hr2.out.rd (by rw [hN5.out, numB_length]; have h1 := hN6.out; have h2 := ls.out; omega) hB.out.size ?_; intro v5 w5 h1 h2; replace hB := Lib.hid (hB.out.trans (hO.out.below h2 hB.out.size)); replace hO := Lib.hid (show OwnB W.heap.size 5 w5 v5 ((MB ++ numB o.e) ++ (numB o.s)) from h1); obtain ⟨pbN7, qbN7, hz5⟩ := hO.out.rd.slice; rw [hN7.out] at hz5; subst hz5; clear h1 h2))
  all_goals
    clear c0 c1 c2 c3 c4 c5 c6 c7 c8 c9 c10
    go_wp2
    go_ret
    exact ⟨_, rfl, by rw [he.out]; exact hO.out.mono hb1.out.size, hb1.out.trans (hB.out.mono hb1.out.size)⟩
end Go.Proofs.YtlbgffhipondiaaGreatDoor.wir.val

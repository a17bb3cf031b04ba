/- Contract of digest.Pieces and of digest.Sum. Contract of digest.Sum. D01m D01n -/
import Derived.Test.YtnknkiiikeefgaaGreatDoorD01h
import Derived.Test.YtnknkiiikeefgaaGreatDoorLibB
import Derived.Deep.DeepCutAuto
import Derived.Test.YtnknkiiikeefgaaGreatDoorLib
import Derived.Lib.SlBytesConst
namespace Go.Proofs.YtnknkiiikeefgaaGreatDoor
open Go.RowKit Go.YtnknkiiikeefgaaGreatDoor
set_option linter.unusedVariables false
variable {Tg Tf : TypeId}
set_option maxRecDepth 100000 in
set_option maxHeartbeats 2000000 in
theorem pieces_some (b o c : Nat) (L : List (List Int)) (w : World) (hLc : L.length ≤ c) (hcm : c ≤ maxLen) (hbw : b < w.heap.size) (hcell : ∀ i, i < L.length → ∃ s, w.cell? ⟨b, o + i, none⟩ = some s ∧ RdB w s (nthL L i))
   (hn : L.length ≤ 20) (hlen : ∀ i, (nthL L i).length ≤ 10000) (hby : ∀ i, Bytes (nthL L i))
   (hg : w.heap[2]? = some (.cells (u32s constW) Tg (0, 0))) (hgf : w.heap[0]? = some (.cells firstW.cells Tf (0, 0))) :
    Calls Tryz.prog 93 #[.slice (some ⟨b, o, none⟩) L.length c] w
     fun e w' => e = .returned (.tuple #[.agg (u8s (endF (blocksF firstW (flatN L L.length)) (restF (flatN L L.length)) (flatN L L.length).length)), .int .i64 0]) ∧ Below w.heap.size w w' := by
  unfold maxLen at hcm
  have hcell' := Lib.hid hcell; have hlen' := Lib.hid hlen; have hby' := Lib.hid hby; have hg' := Lib.hid hg; have hgf' := Lib.hid hgf
  clear hcell hlen hby hg hgf
  have hlt : 2 < w.heap.size := (Array.getElem?_eq_some_iff.1 hg'.out).1
  have hltf : 0 < w.heap.size := (Array.getElem?_eq_some_iff.1 hgf'.out).1
  generalize hm : L.length = n at *
  have hm' := Lib.hid hm; clear hm
  go_enter Tryz.func93, Tryz.ntmps93
  go_wp2
  generalize hWx : w.alloc (Obj.cells _ 24) = Wx
  have hWb : Below w.heap.size w Wx := by rw [← hWx]; exact (Below.refl _ _).alloc (Nat.le_refl _) _
  have hWz : Wx.heap.size = w.heap.size + 1 := by rw [← hWx]; simp
  have hW0 : Wx.heap[w.heap.size]? = some (.cells (u8s (zerosB 32)) 24 (0, 0)) := by rw [← hWx]; exact heap_alloc_new w _
  have hWz' := Lib.hid hWz; have hW0' := Lib.hid hW0
  clear hWx hWz hW0
  go_loop [5, 15] (fun _ i => ∃ k : Nat, k ≤ n ∧ i = .int .i64 k) (fun _ i => n - (intOf i).toNat)
  case atStart => exact ⟨0, by omega, rfl⟩
  case round =>
    obtain ⟨k, hk, rfl⟩ := hrel
    by_cases hlt' : k < n
    · obtain ⟨s, hs, hrs⟩ := hcell'.out k hlt'
      obtain ⟨sa, sc, rfl⟩ := hrs.slice
      have hs1 := (hWb.cell (p := (⟨b, o + k, none⟩ : Addr)) hbw).trans hs
      have hle := hlen'.out k
      go_wp2
      go_round
      case rel => exact ⟨k + 1, by omega, by go_num⟩
      case measure => simp [intOf]; omega
    · have hkn : k = n := by omega
      subst hkn
      clear hcm
      go_upto_region 10 with (go_at_call 126; refine (start_any (Tf := Tf) _ ?_).mono ?_; (exact (hWb.block _ hltf).trans hgf'.out); rintro e w1 ⟨rfl, hb1⟩; have hb1' := Lib.hid hb1; clear hb1)
      have hz1 : w.heap.size < w1.heap.size := by have := hb1'.out.size; have := hWz'.out; omega
      have hB1 : Below (w.heap.size + 1) Wx w1 := hb1'.out.mono (by have := hWz'.out; omega)
      have hB1' := Lib.hid hB1; clear hB1
      go_wp2
      go_loopw [8, 27] (fun _ i wr => ∃ j : Nat, j ≤ k ∧ i = .int .i64 j ∧ Below (w.heap.size + 1) Wx wr ∧ w1.heap.size < wr.heap.size ∧ ∃ rv, wr.heap[w1.heap.size]? = some (.cells #[.int .u32 (blocksF firstW (flatN L j)).a, .int .u32 (blocksF firstW (flatN L j)).b, .int .u32 (blocksF firstW (flatN L j)).c, .int .u32 (blocksF firstW (flatN L j)).d, .int .u32 (blocksF firstW (flatN L j)).e, .int .u32 (blocksF firstW (flatN L j)).f, .int .u32 (blocksF firstW (flatN L j)).g, .int .u32 (blocksF firstW (flatN L j)).h, rv, .int .i64 ((flatN L j).length : Nat)] 161 (0, 0)) ∧ RdB wr rv (restF (flatN L j))) (fun _ i _ => k - (intOf i).toNat)
      case atStart => exact ⟨0, by omega, rfl, hB1'.out.alloc (by omega) _, by simp, .slice none 0 0, by rw [show blocksF firstW (flatN L 0) = firstW from blocksF_small _ _ (by simp [flatN]), show (flatN L 0).length = 0 from rfl]; exact heap_alloc_new w1 _, .inl ⟨none, 0, rfl, fun _ => rfl, by simp [flatN, restF]⟩⟩
      case round =>
        obtain ⟨j, hj, rfl, hbr, hzr, rv, hrow, hrd⟩ := hrel
        have hrow' := Lib.hid hrow; have hrd' := Lib.hid hrd; clear hrow hrd
        have hbw' : Below w.heap.size w wr := hWb.trans (hbr.mono (by omega))
        by_cases hlt' : j < k
        · obtain ⟨s, hs, hrs⟩ := hcell'.out j hlt'
          obtain ⟨sa, sc, rfl⟩ := hrs.slice
          have hs1 := (hbw'.cell (p := (⟨b, o + j, none⟩ : Addr)) hbw).trans hs
          have hrs' := Lib.hid (hrs.mono hbw')
          have hgr := Lib.hid ((hbw'.block _ hlt).trans hg'.out)
          have hfl := flatN_length L hlen'.out j
          have hll := hlen'.out j
          have hN : Hid ((flatN L j).length + (nthL L j).length ≤ 200000) := Lib.hid (by omega)
          have hrl : Hid ((restF (flatN L j)).length < 64) := Lib.hid (by rw [restF_length]; exact Nat.mod_lt _ (by decide))
          have hG : Hid (blocksF (blocksF firstW (flatN L j)) (restF (flatN L j) ++ nthL L j) = blocksF firstW (flatN L (j + 1))) := Lib.hid (blocksF_append _ _ _).symm
          clear hs hrs hfl hll
          go_wp2_with (first | (refine wpList_load_row rfl 161 _ rfl w1.heap.size rfl 161 _ _ _ hrow'.out Tryz.underlying161 rfl (by kernel_rfl) ?_) | (go_at_call 127; refine (put_any (Tg := Tg) (blocksF firstW (flatN L j)) (blocksF firstW (flatN L (j + 1))) rv (restF (flatN L j)) (flatN L j).length (.slice sa (nthL L j).length sc) (nthL L j) _ (blocksF_ok _ _ firstW_ok) hrd'.out hrs'.out (bytes_drop _ _ (flatN_bytes L hby'.out j)) (hby'.out j) hrl.out hN.out hG.out hgr.out).mono ?_; rintro e w2 ⟨r', rfl, ho2, hb2⟩; obtain ⟨pa, pc, rfl⟩ := ho2.rd.slice; have ho2' := Lib.hid ho2; have hb2' := Lib.hid hb2; have hrow2 := Lib.hid ((hb2.block _ hzr).trans hrow'.out); clear ho2 hb2) | (refine wpList_store_row rfl 161 _ _ rfl w1.heap.size _ rfl rfl 161 _ hrow2.out (by kernel_rfl) (by simp) (by simp [Value.oneCell']) ?_))
          go_roundw
          case rel =>
            have hB2 : Below (w.heap.size + 1) Wx w2 := hbr.trans (hb2'.out.mono (by omega))
            have hz2 := hb2'.out.size
            have hrest : restF (restF (flatN L j) ++ nthL L j) = restF (flatN L (j + 1)) := (restF_append _ _).symm
            have ho3 := ho2'.out
            rw [hrest] at ho3
            refine ⟨j + 1, by omega, by go_num, below_setRow' (g := w1.heap.size) hB2 (by omega) _, by rw [size_setRow]; omega, .slice pa (restF (restF (flatN L j) ++ nthL L j)).length pc, ?_, ?_⟩
            · have hl : (((flatN L (j + 1)).length : Nat) : Int) = (flatN L j).length + (nthL L j).length := by rw [flatN, List.length_append]; exact Int.natCast_add _ _
              rw [hl]
              exact setRow_heap _ _ _ _ _ _ hrow2.out
            · rw [hrest]
              exact (ownB_setRow (g := w1.heap.size) ho3 (Nat.le_refl _) hzr _).rd
          case measure => simp [intOf]; omega
        · have hjk : j = k := by omega
          subst hjk
          have hfl := flatN_length L hlen'.out j
          have hN : Hid ((flatN L j).length ≤ 200000) := Lib.hid (by omega)
          have hrl : Hid ((restF (flatN L j)).length < 64) := Lib.hid (by rw [restF_length]; exact Nat.mod_lt _ (by decide))
          have hFb := Lib.hid (flatN_bytes L hby'.out j)
          have hgr := Lib.hid ((hbw'.block _ hlt).trans hg'.out)
          have hres := Lib.hid ((hbr.block w.heap.size (by omega)).trans hW0'.out)
          clear hfl
          have hlen32 : (endF (blocksF firstW (flatN L j)) (restF (flatN L j)) (flatN L j).length).length = 32 := writtenN_length _ 8
          have hi : (Tryz.prog.info? 24).map (·.size) = some (u8s (endF (blocksF firstW (flatN L j)) (restF (flatN L j)) (flatN L j).length)).size := by rw [u8s_size, hlen32]; kernel_rfl
          have hs2 : (u8s (zerosB 32)).size = (u8s (endF (blocksF firstW (flatN L j)) (restF (flatN L j)) (flatN L j).length)).size := by rw [u8s_size, u8s_size, hlen32, zerosB_length]
          have hi' := Lib.hid hi; have hs2' := Lib.hid hs2
          clear hi hs2 hlen32
          go_wp2_with (first | (refine wpList_load_row rfl 161 _ rfl w1.heap.size rfl 161 _ _ _ hrow'.out Tryz.underlying161 rfl (by kernel_rfl) ?_) | (go_at_call 128; refine (finish_any (Tg := Tg) (blocksF firstW (flatN L j)) _ rv (restF (flatN L j)) (flatN L j).length _ (blocksF_ok _ _ firstW_ok) hrd'.out (bytes_drop _ _ hFb.out) hrl.out hN.out rfl hgr.out).mono ?_; rintro e w2 ⟨rfl, hb2⟩; have hrow2' := Lib.hid ((hb2.block _ (by omega)).trans hres.out); have hB2' := Lib.hid (hbw'.trans (hb2.mono (by omega))); clear hb2) | (refine wpList_store_row rfl 24 _ _ rfl w.heap.size (u8s (endF (blocksF firstW (flatN L j)) (restF (flatN L j)) (flatN L j).length)) rfl rfl 24 _ hrow2'.out hi'.out hs2'.out (u8s_one _) ?_))
          try simp only [Exit.inBlock, Exit.then]
          exact bodyPost_ret (results_row_tmp rfl _ _ w.heap.size 24 _ _ _ rfl (setRow_heap _ _ _ _ _ _ hrow2'.out) Tryz.underlying24 rfl hi'.out) rfl ⟨rfl, below_setRow' (g := w.heap.size) hB2'.out (Nat.le_refl _) _⟩
end Go.Proofs.YtnknkiiikeefgaaGreatDoor
namespace Go.Proofs.YtnknkiiikeefgaaGreatDoor
open Go.RowKit Go.YtnknkiiikeefgaaGreatDoor
set_option linter.unusedVariables false
variable {Tg Tf : TypeId}
theorem pieces_any (L : List (List Int)) (v : Value) (b o c : Nat) (hv : v = .slice (some ⟨b, o, none⟩) L.length c) (w : World) (hLc : L.length ≤ c) (hcm : c ≤ maxLen) (hbw : b < w.heap.size) (hcell : ∀ i, i < L.length → ∃ s, w.cell? ⟨b, o + i, none⟩ = some s ∧ RdB w s (nthL L i))
   (hn : L.length ≤ 20) (hlen : ∀ i, (nthL L i).length ≤ 10000) (hby : ∀ i, Bytes (nthL L i))
   (hg : w.heap[2]? = some (.cells (u32s constW) Tg (0, 0))) (hgf : w.heap[0]? = some (.cells firstW.cells Tf (0, 0))) :
    Calls Tryz.prog 93 #[v] w
     fun e w' => e = .returned (.tuple #[.agg (u8s (shaF L.flatten)), .int .i64 0]) ∧ Below w.heap.size w w' := by
  subst hv
  have h := pieces_some (Tg := Tg) (Tf := Tf) b o c L w hLc hcm hbw hcell hn hlen hby hg hgf
  rw [flatN_all] at h
  exact h
set_option maxRecDepth 100000 in
set_option maxHeartbeats 400000 in
theorem sum_any (D : List Int) (bv : Value) (l : List Int) (w : World) (hl : RdB w bv l) (hlb : Bytes l) (hlen : l.length ≤ 10000) (hD : shaF l = D)
   (hg : w.heap[2]? = some (.cells (u32s constW) Tg (0, 0))) (hgf : w.heap[0]? = some (.cells firstW.cells Tf (0, 0))) :
    Calls Tryz.prog 59 #[bv] w
     fun e w' => e = .returned (.tuple #[.agg (u8s D), .int .i64 0]) ∧ Below w.heap.size w w' := by
  obtain ⟨a, c, rfl⟩ := hl.slice
  have hlt : 2 < w.heap.size := (Array.getElem?_eq_some_iff.1 hg).1
  have hltf : 0 < w.heap.size := (Array.getElem?_eq_some_iff.1 hgf).1
  have hp : ∀ o1, Calls Tryz.prog 93 #[.slice (some ⟨w.heap.size + 1, 0, none⟩) 1 1] ((w.alloc o1).alloc (.cells #[.slice a l.length c] 83))
     fun e w' => e = .returned (.tuple #[.agg (u8s D), .int .i64 0]) ∧ Below ((w.alloc o1).alloc (.cells #[.slice a l.length c] 83)).heap.size ((w.alloc o1).alloc (.cells #[.slice a l.length c] 83)) w' := by
    intro o1
    have hB : Below w.heap.size w ((w.alloc o1).alloc (.cells #[.slice a l.length c] 83)) := ((Below.refl _ _).alloc (Nat.le_refl _) _).alloc (by simp) _
    have h := pieces_any (Tg := Tg) (Tf := Tf) [l] (.slice (some ⟨w.heap.size + 1, 0, none⟩) 1 1) (w.heap.size + 1) 0 1 rfl ((w.alloc o1).alloc (.cells #[.slice a l.length c] 83)) (Nat.le_refl _) (by decide) (by simp) (fun i hi => by
      have h0 : i = 0 := by simp at hi; exact hi
      subst h0
      exact ⟨_, cell_of_row _ _ _ _ _ _ (hn2 w _ _), hl.mono hB⟩) (by simp) (fun i => by
      cases i with
      | zero => exact hlen
      | succ i => simp [nthL]) (fun i => by
      cases i with
      | zero => exact hlb
      | succ i => intro j; simp [nthL, ith]) ((hB.block _ hlt).trans hg) ((hB.block _ hltf).trans hgf)
    rw [show ([l] : List (List Int)).flatten = l by simp, hD] at h
    exact h
  have hDl : D.length = 32 := by rw [← hD]; exact shaF_length l
  have hi : (Tryz.prog.info? 24).map (·.size) = some (u8s D).size := by rw [u8s_size, hDl]; kernel_rfl
  have hs2 : (u8s (zerosB 32)).size = (u8s D).size := by rw [u8s_size, u8s_size, hDl, zerosB_length]
  have hp' := Lib.hid hp; have hi' := Lib.hid hi; have hs2' := Lib.hid hs2
  clear hp hi hs2 hDl hD hl hlb hlen hg hgf
  go_enter Tryz.func59, Tryz.ntmps59
  go_wp2_with (first | (go_at_call 93; refine (hp'.out _).mono ?_; rintro e w1 ⟨rfl, hb1⟩; have hrow := Lib.hid (show w1.heap[w.heap.size]? = some (.cells (u8s (zerosB 32)) 24 (0, 0)) from (hb1.block _ (by simp; omega)).trans ((hp1 _ _ _ (by simp)).trans (heap_alloc_new w _))); have hB1 := Lib.hid ((((Below.refl _ _).alloc (Nat.le_refl _) _).alloc (by simp) _).trans (hb1.mono (by simp; omega))); clear hb1) | (refine wpList_store_row rfl 24 _ _ rfl w.heap.size (u8s D) rfl rfl 24 _ hrow.out hi'.out hs2'.out (u8s_one _) ?_))
  try simp only [Exit.inBlock, Exit.then]
  exact bodyPost_ret (results_row_tmp rfl _ _ w.heap.size 24 _ _ _ rfl (setRow_heap _ _ _ _ _ _ hrow.out) Tryz.underlying24 rfl hi'.out) rfl ⟨rfl, below_setRow' (g := w.heap.size) hB1.out (Nat.le_refl _) _⟩
end Go.Proofs.YtnknkiiikeefgaaGreatDoor
namespace Go.Proofs.YtnknkiiikeefgaaGreatDoor
open Go.RowKit Go.YtnknkiiikeefgaaGreatDoor
set_option linter.unusedVariables false
variable {Tg Tf : TypeId}
def sL (s : ByteArray) : List Int := s.data.toList.map (fun b => (b.toNat : Int))
theorem sL_length (s : ByteArray) : (sL s).length = s.size := by simp [sL]
theorem sL_bytes (s : ByteArray) : Bytes (sL s) := by
  intro i
  simp only [sL, ith, List.getElem?_map]
  cases h : s.data.toList[i]? with
  | none => simp
  | some b => have := b.toNat_lt; simp; omega
theorem rd_str (w : World) (s : ByteArray) (hs : s.size ≤ 10000) (m : Nat × Nat) :
    RdB (w.drew.alloc (.cells (bytesRow s (grownCap w s.size 0 5)) 5 m)) (.slice (some ⟨w.heap.size, 0, none⟩) s.size (grownCap w s.size 0 5)) (sL s) := by
  refine .inr ⟨w.heap.size, 0, _, by rw [sL_length], by rw [sL_length]; exact grownCap_ge w _ _ _, grownCap_le_maxLen w _ _ _ (by unfold maxLen; omega), by simp, fun i hi => ?_⟩
  rw [sL_length] at hi
  have hrow : (w.drew.alloc (.cells (bytesRow s (grownCap w s.size 0 5)) 5 m)).heap[w.heap.size]? = some (.cells (bytesRow s (grownCap w s.size 0 5)) 5 m) := heap_alloc_new w.drew _
  rw [Nat.zero_add]
  unfold World.cell?
  rw [hrow]
  have hi' : i < s.data.size := hi
  have hg : s.data[i]? = some s.data[i] := Array.getElem?_eq_getElem hi'
  have hsz : (s.data.map (fun b => Value.int .u8 b.toNat)).size = s.size := by simp
  simp only [bytesRow, Array.getElem?_append, hsz, hi, if_true, Array.getElem?_map, hg, Option.map_some, sL, ith, List.getElem?_map, Array.getElem?_toList, Option.getD_some]
  simp
theorem storeNew {P : Program} {ops : Array Oper} {rest : List Oper} {o : Oper} {a : Act} {Q : Exit → Act → World → Prop} {old : Array Value} (w1 : World) (hgd : o.guard = none) (ty : TypeId) (x y : Operand) (ho : o.op = .store ty x y)
    (cells : Array Value) (t : TypeId) (hx : a.eval x = .pointer (some ⟨w1.heap.size, 0, none⟩)) (hy : a.eval y = .agg cells)
    (hi : (P.info? ty).map (·.size) = some cells.size) (hold : old.size = cells.size) (h1 : cells.all (·.oneCell') = true)
    (h : ∀ wx, wx.heap[w1.heap.size]? = some (.cells cells t (0, 0)) → Below w1.heap.size w1 wx → wpList P ops Q rest (a.put o.dst undef) wx) :
    wpList P ops Q (o :: rest) a (w1.alloc (.cells old t)) := by
  have hg := heap_alloc_new w1 (.cells old t)
  refine wpList_store_row hgd ty x y ho w1.heap.size cells hx hy t old hg hi hold h1 (h _ (setRow_heap _ _ _ _ _ _ hg) ?_)
  exact below_setRow' ((Below.refl _ _).alloc (Nat.le_refl _) _) (Nat.le_refl _) _
theorem Stop.go' (p : Prop) (h : Stop p) : p := h
theorem cellB {w : World} {g : Nat} {D : List Int} {T : TypeId} (hr : w.heap[g]? = some (.cells (u8s D) T (0, 0))) (hn : D.length = 32) (k : Nat) (x : Int) (hx : ith D k = x) (hk : k < 32) : w.cell? ⟨g, k, none⟩ = some (.int .u8 x) := by
  subst hx
  rw [cell_of_row _ _ _ _ _ _ hr]
  exact u8s_get _ _ (by omega)
theorem cells4 {w : World} {g : Nat} {a b c d : Value} {T : TypeId} (hr : w.heap[g]? = some (.cells #[a, b, c, d] T (0, 0))) : w.cell? ⟨g, 0, none⟩ = some a ∧ w.cell? ⟨g, 1, none⟩ = some b ∧ w.cell? ⟨g, 2, none⟩ = some c ∧ w.cell? ⟨g, 3, none⟩ = some d :=
  ⟨cell_of_row _ _ _ _ _ _ hr, cell_of_row _ _ _ _ _ _ hr, cell_of_row _ _ _ _ _ _ hr, cell_of_row _ _ _ _ _ _ hr⟩
end Go.Proofs.YtnknkiiikeefgaaGreatDoor
namespace Go.Proofs.YtnknkiiikeefgaaGreatDoor
open Go.RowKit Go.YtnknkiiikeefgaaGreatDoor
set_option linter.unusedVariables false
variable {Tg Tf : TypeId}
theorem rd_rowM {w : World} {g : Nat} {cs : List Int} {E : TypeId} {m : Nat × Nat} (hg : w.heap[g]? = some (.cells (u8s cs) E m)) (n c : Nat) (hn : cs.length = n) (hc : n ≤ c) (hm : c ≤ maxLen) :
    RdB w (.slice (some ⟨g, 0, none⟩) n c) cs :=
  .inr ⟨g, 0, c, by rw [hn], by omega, hm, (Array.getElem?_eq_some_iff.1 hg).1, fun i hi => by rw [Nat.zero_add, cell_of_row _ _ _ _ _ _ hg]; exact u8s_get _ _ hi⟩
def StopP (p : Prop) : Prop := p
theorem Stop.go'' (p : Prop) (h : StopP p) : p := h
theorem StopP.go {p : Prop} (h : p) : StopP p := h
theorem abc_bytes : Bytes [97, 98, 99] := by
  intro i
  match i with
  | 0 => decide
  | 1 => decide
  | 2 => decide
  | n + 3 => simp [ith]
theorem sum_abc (A : List Int) (hA : shaF [97, 98, 99] = A) (w : World) (m : Nat × Nat)
   (hg : w.heap[2]? = some (.cells (u32s constW) Tg (0, 0))) (hgf : w.heap[0]? = some (.cells firstW.cells Tf (0, 0))) :
    Calls Tryz.prog 59 #[.slice (some ⟨w.heap.size, 0, none⟩) 3 3] (w.alloc (.cells #[.int .u8 97, .int .u8 98, .int .u8 99] 5 m))
     fun e w' => e = .returned (.tuple #[.agg (u8s A), .int .i64 0]) ∧ Below w.heap.size w w' := by
  have hlt : 2 < w.heap.size := (Array.getElem?_eq_some_iff.1 hg).1
  have hltf : 0 < w.heap.size := (Array.getElem?_eq_some_iff.1 hgf).1
  have hB : Below w.heap.size w (w.alloc (.cells #[.int .u8 97, .int .u8 98, .int .u8 99] 5 m)) := (Below.refl _ _).alloc (Nat.le_refl _) _
  refine (sum_any (Tg := Tg) (Tf := Tf) A _ [97, 98, 99] _ (rd_rowM (cs := [97, 98, 99]) (heap_alloc_new w _) 3 3 rfl (Nat.le_refl _) (by decide)) abc_bytes (by decide) hA ((hB.block _ hlt).trans hg) ((hB.block _ hltf).trans hgf)).mono ?_
  rintro e w' ⟨rfl, hb⟩
  exact ⟨rfl, hB.trans (hb.mono (by simp))⟩
theorem pieces_abc (A : List Int) (hA : shaF [97, 98, 99] = A) (w : World) (m1 m2 : Nat × Nat)
   (hg : w.heap[2]? = some (.cells (u32s constW) Tg (0, 0))) (hgf : w.heap[0]? = some (.cells firstW.cells Tf (0, 0))) :
    Calls Tryz.prog 93 #[.slice (some ⟨w.heap.size + 1 + 1, 0, none⟩) 3 3] (((w.alloc (.cells #[.int .u8 97] 5 m1)).alloc (.cells #[.int .u8 98, .int .u8 99] 5 m2)).alloc (.cells #[.slice (some ⟨w.heap.size, 0, none⟩) 1 1, .slice none 0 0, .slice (some ⟨w.heap.size + 1, 0, none⟩) 2 2] 83))
     fun e w' => e = .returned (.tuple #[.agg (u8s A), .int .i64 0]) ∧ Below w.heap.size w w' := by
  have hlt : 2 < w.heap.size := (Array.getElem?_eq_some_iff.1 hg).1
  have hltf : 0 < w.heap.size := (Array.getElem?_eq_some_iff.1 hgf).1
  generalize hW : ((w.alloc (.cells #[.int .u8 97] 5 m1)).alloc (.cells #[.int .u8 98, .int .u8 99] 5 m2)).alloc (.cells #[.slice (some ⟨w.heap.size, 0, none⟩) 1 1, .slice none 0 0, .slice (some ⟨w.heap.size + 1, 0, none⟩) 2 2] 83) = W
  have hB : Below w.heap.size w W := by rw [← hW]; exact (((Below.refl _ _).alloc (Nat.le_refl _) _).alloc (by simp) _).alloc (by simp; omega) _
  have hz : w.heap.size + 3 = W.heap.size := by rw [← hW]; simp
  have r1 : W.heap[w.heap.size]? = some (.cells (u8s [97]) 5 m1) := by rw [← hW]; exact (hp1 _ _ _ (by simp; omega)).trans ((hp1 _ _ _ (by simp)).trans (heap_alloc_new w _))
  have r2 : W.heap[w.heap.size + 1]? = some (.cells (u8s [98, 99]) 5 m2) := by rw [← hW]; exact (hp1 _ _ _ (by simp)).trans (hn2 w _ _)
  have r3 : W.heap[w.heap.size + 1 + 1]? = some (.cells #[.slice (some ⟨w.heap.size, 0, none⟩) 1 1, .slice none 0 0, .slice (some ⟨w.heap.size + 1, 0, none⟩) 2 2] 83 (0, 0)) := by rw [← hW]; exact hn3 w _ _ _
  have h := pieces_any (Tg := Tg) (Tf := Tf) [[97], [], [98, 99]] (.slice (some ⟨w.heap.size + 1 + 1, 0, none⟩) 3 3) (w.heap.size + 1 + 1) 0 3 rfl W (Nat.le_refl _) (by decide) (by omega) (fun i hi => by
    rw [Nat.zero_add]
    match i, hi with
    | 0, _ => exact ⟨_, cell_of_row _ _ _ _ _ _ r3, rd_rowM r1 1 1 rfl (Nat.le_refl _) (by decide)⟩
    | 1, _ => exact ⟨_, cell_of_row _ _ _ _ _ _ r3, .inl ⟨none, 0, rfl, fun _ => rfl, rfl⟩⟩
    | 2, _ => exact ⟨_, cell_of_row _ _ _ _ _ _ r3, rd_rowM r2 2 2 rfl (Nat.le_refl _) (by decide)⟩) (by decide) (fun i => by
    match i with
    | 0 => decide
    | 1 => decide
    | 2 => decide
    | n + 3 => simp [nthL]) (fun i => by
    match i with
    | 0 => exact fun j => match j with | 0 => by decide | n + 1 => by simp [nthL, ith]
    | 1 => exact fun j => by simp [nthL, ith]
    | 2 => exact fun j => match j with | 0 => by decide | 1 => by decide | n + 2 => by simp [nthL, ith]
    | n + 3 => exact fun j => by simp [nthL, ith]) ((hB.block _ hlt).trans hg) ((hB.block _ hltf).trans hgf)
  rw [show ([[97], [], [98, 99]] : List (List Int)).flatten = [97, 98, 99] from rfl, hA] at h
  refine h.mono ?_
  rintro e w' ⟨rfl, hb⟩
  exact ⟨rfl, hB.trans (hb.mono (by omega))⟩
theorem load_row {w : World} {g : Nat} {A : List Int} {T : TypeId} (hr : w.heap[g]? = some (.cells (u8s A) T (0, 0))) (hn : A.length = 32) : (loadCells ⟨g, 0, none⟩ 32).run Tryz.prog w = .ok (u8s A) w := by
  have h := run_loadCells_list (P := Tryz.prog) w ⟨g, 0, none⟩ (u8v A) (fun j v hv => by
    rw [addr_add, Nat.zero_add, cell_of_row _ _ _ _ _ _ hr]
    simpa [u8s_eq] using hv)
  rw [u8v_length, hn] at h
  exact h
theorem heq_ten (A : List Int) (w4 : World) (h : (Op.equalIn (9998 + 2) 24 (.agg (u8s A)) (.agg (u8s A))).run Tryz.prog w4 = .ok true w4) : (Op.equalIn 10000 24 (.agg (u8s A)) (.agg (u8s A))).run Tryz.prog w4 = .ok true w4 := h
theorem fin10 {B g : Nat} {w0 w2 : World} {a0 a1 a2 a3 a4 a5 a6 a7 a8 a9 x0 x1 x2 x3 x4 x5 x6 x7 x8 x9 : Value} {T : TypeId} (hrow : w2.heap[g]? = some (.cells #[a0, a1, a2, a3, a4, a5, a6, a7, a8, a9] T (0, 0))) (hB : Below B w0 w2) (hBg : B ≤ g) :
    ((((((((((w2.setCell ⟨g, 0, none⟩ x0).setCell ⟨g, 1, none⟩ x1).setCell ⟨g, 2, none⟩ x2).setCell ⟨g, 3, none⟩ x3).setCell ⟨g, 4, none⟩ x4).setCell ⟨g, 5, none⟩ x5).setCell ⟨g, 6, none⟩ x6).setCell ⟨g, 7, none⟩ x7).setCell ⟨g, 8, none⟩ x8).setCell ⟨g, 9, none⟩ x9).heap[g]? = some (.cells #[x0, x1, x2, x3, x4, x5, x6, x7, x8, x9] T (0, 0)) ∧
    Below B w0 ((((((((((w2.setCell ⟨g, 0, none⟩ x0).setCell ⟨g, 1, none⟩ x1).setCell ⟨g, 2, none⟩ x2).setCell ⟨g, 3, none⟩ x3).setCell ⟨g, 4, none⟩ x4).setCell ⟨g, 5, none⟩ x5).setCell ⟨g, 6, none⟩ x6).setCell ⟨g, 7, none⟩ x7).setCell ⟨g, 8, none⟩ x8).setCell ⟨g, 9, none⟩ x9) := by
  rw [set10_world hrow]
  exact ⟨setRow_heap _ _ _ _ _ _ hrow, below_setRow' (g := g) hB hBg _⟩
theorem fin10' {B g : Nat} {w0 W w2 : World} {a0 a1 a2 a3 a4 a5 a6 a7 a8 a9 x0 x1 x2 x3 x4 x5 x6 x7 x8 x9 : Value} {T : TypeId} (hb : Below W.heap.size W w2) (hrow : W.heap[g]? = some (.cells #[a0, a1, a2, a3, a4, a5, a6, a7, a8, a9] T (0, 0))) (hS : Below B w0 W) (hBW : B ≤ W.heap.size) (hBg : B ≤ g) :
    ((((((((((w2.setCell ⟨g, 0, none⟩ x0).setCell ⟨g, 1, none⟩ x1).setCell ⟨g, 2, none⟩ x2).setCell ⟨g, 3, none⟩ x3).setCell ⟨g, 4, none⟩ x4).setCell ⟨g, 5, none⟩ x5).setCell ⟨g, 6, none⟩ x6).setCell ⟨g, 7, none⟩ x7).setCell ⟨g, 8, none⟩ x8).setCell ⟨g, 9, none⟩ x9).heap[g]? = some (.cells #[x0, x1, x2, x3, x4, x5, x6, x7, x8, x9] T (0, 0)) ∧
    Below B w0 ((((((((((w2.setCell ⟨g, 0, none⟩ x0).setCell ⟨g, 1, none⟩ x1).setCell ⟨g, 2, none⟩ x2).setCell ⟨g, 3, none⟩ x3).setCell ⟨g, 4, none⟩ x4).setCell ⟨g, 5, none⟩ x5).setCell ⟨g, 6, none⟩ x6).setCell ⟨g, 7, none⟩ x7).setCell ⟨g, 8, none⟩ x8).setCell ⟨g, 9, none⟩ x9) :=
  fin10 ((hb.block g (Array.getElem?_eq_some_iff.1 hrow).1).trans hrow) (hS.trans (hb.mono hBW)) hBg
end Go.Proofs.YtnknkiiikeefgaaGreatDoor

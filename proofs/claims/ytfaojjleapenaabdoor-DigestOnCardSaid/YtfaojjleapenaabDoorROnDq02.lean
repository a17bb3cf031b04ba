/- Texts that the row stands on, part 2. -/
import Derived.Test.YtfaojjleapenaabDoorROnDq01
import Derived.Lib.SlBytesConst
import Derived.Deep.CutBlock
namespace Go.Proofs.YtfaojjleapenaabDoor
open Go.RowKit Go.YtfaojjleapenaabDoor
set_option linter.unusedVariables false
variable {Tg Tf : TypeId}
set_option maxRecDepth 100000 in
set_option maxHeartbeats 2000000 in
theorem pieces_some (b o c : Nat) (L : List (List Int)) (w : World) (hLc : L.length ≤ c) (hcm : c ≤ maxLen) (hbw : b < w.heap.size) (hcell : ∀ i, i < L.length → ∃ s, w.cell? ⟨b, o + i, none⟩ = some s ∧ RdB w s (nthL L i))
   (hn : L.length ≤ 20) (hlen : ∀ i, (nthL L i).length ≤ 10000) (hby : ∀ i, Bytes (nthL L i))
   (hg : w.heap[2]? = some (.cells (u32s constW) Tg (0, 0))) (hgf : w.heap[0]? = some (.cells firstW.cells Tf (0, 0))) :
    Calls Tryd.prog 19 #[.slice (some ⟨b, o, none⟩) L.length c] w
     fun e w' => e = .returned (.tuple #[.agg (u8s (endF (blocksF firstW (flatN L L.length)) (restF (flatN L L.length)) (flatN L L.length).length)), .int .i64 0]) ∧ Below w.heap.size w w' := by
  unfold maxLen at hcm
  have hcell' := Lib.hid hcell; have hlen' := Lib.hid hlen; have hby' := Lib.hid hby; have hg' := Lib.hid hg; have hgf' := Lib.hid hgf
  clear hcell hlen hby hg hgf
  have hlt : 2 < w.heap.size := (Array.getElem?_eq_some_iff.1 hg'.out).1
  have hltf : 0 < w.heap.size := (Array.getElem?_eq_some_iff.1 hgf'.out).1
  generalize hm : L.length = n at *
  have hm' := Lib.hid hm; clear hm
  go_enter Tryd.func19, Tryd.ntmps19
  go_wp2
  generalize hWx : w.alloc (Obj.cells _ 32) = Wx
  have hWb : Below w.heap.size w Wx := by rw [← hWx]; exact (Below.refl _ _).alloc (Nat.le_refl _) _
  have hWz : Wx.heap.size = w.heap.size + 1 := by rw [← hWx]; simp
  have hW0 : Wx.heap[w.heap.size]? = some (.cells (u8s (zerosB 32)) 32 (0, 0)) := by rw [← hWx]; exact heap_alloc_new w _
  have hWz' := Lib.hid hWz; have hW0' := Lib.hid hW0
  clear hWx hWz hW0
  go_loop [5, 15] (fun _ i => ∃ k : Nat, k ≤ n ∧ i = .int .i64 k) (fun _ i => n - (intOf i).toNat)
  case atStart => exact ⟨0, by omega, rfl⟩
  case round =>
    obtain ⟨k, hk, rfl⟩ := hrel
    by_cases hlt' : k < n
    · obtain ⟨s, hs, hrs⟩ := hcell'.out k hlt'
      obtain ⟨sa, sc, rfl⟩ := hrs.slice
      have hs1 := (hWb.cell (p := (⟨b, o + k, none⟩ : Addr)) hbw).trans hs
      have hle := hlen'.out k
      go_wp2
      go_round
      case rel => exact ⟨k + 1, by omega, by go_num⟩
      case measure => simp [intOf]; omega
    · have hkn : k = n := by omega
      subst hkn
      clear hcm
      go_upto_region 10 with (go_at_call 13; refine (start_any (Tf := Tf) _ ?_).mono ?_; (exact (hWb.block _ hltf).trans hgf'.out); rintro e w1 ⟨rfl, hb1⟩; have hb1' := Lib.hid hb1; clear hb1)
      have hz1 : w.heap.size < w1.heap.size := by have := hb1'.out.size; have := hWz'.out; omega
      have hB1 : Below (w.heap.size + 1) Wx w1 := hb1'.out.mono (by have := hWz'.out; omega)
      have hB1' := Lib.hid hB1; clear hB1
      go_wp2
      go_loopw [8, 27] (fun _ i wr => ∃ j : Nat, j ≤ k ∧ i = .int .i64 j ∧ Below (w.heap.size + 1) Wx wr ∧ w1.heap.size < wr.heap.size ∧ ∃ rv, wr.heap[w1.heap.size]? = some (.cells #[.int .u32 (blocksF firstW (flatN L j)).a, .int .u32 (blocksF firstW (flatN L j)).b, .int .u32 (blocksF firstW (flatN L j)).c, .int .u32 (blocksF firstW (flatN L j)).d, .int .u32 (blocksF firstW (flatN L j)).e, .int .u32 (blocksF firstW (flatN L j)).f, .int .u32 (blocksF firstW (flatN L j)).g, .int .u32 (blocksF firstW (flatN L j)).h, rv, .int .i64 ((flatN L j).length : Nat)] 27 (0, 0)) ∧ RdB wr rv (restF (flatN L j))) (fun _ i _ => k - (intOf i).toNat)
      case atStart => exact ⟨0, by omega, rfl, hB1'.out.alloc (by omega) _, by simp, .slice none 0 0, by rw [show blocksF firstW (flatN L 0) = firstW from blocksF_small _ _ (by simp [flatN]), show (flatN L 0).length = 0 from rfl]; exact heap_alloc_new w1 _, .inl ⟨none, 0, rfl, fun _ => rfl, by simp [flatN, restF]⟩⟩
      case round =>
        obtain ⟨j, hj, rfl, hbr, hzr, rv, hrow, hrd⟩ := hrel
        have hrow' := Lib.hid hrow; have hrd' := Lib.hid hrd; clear hrow hrd
        have hbw' : Below w.heap.size w wr := hWb.trans (hbr.mono (by omega))
        by_cases hlt' : j < k
        · obtain ⟨s, hs, hrs⟩ := hcell'.out j hlt'
          obtain ⟨sa, sc, rfl⟩ := hrs.slice
          have hs1 := (hbw'.cell (p := (⟨b, o + j, none⟩ : Addr)) hbw).trans hs
          have hrs' := Lib.hid (hrs.mono hbw')
          have hgr := Lib.hid ((hbw'.block _ hlt).trans hg'.out)
          have hfl := flatN_length L hlen'.out j
          have hll := hlen'.out j
          have hN : Hid ((flatN L j).length + (nthL L j).length ≤ 200000) := Lib.hid (by omega)
          have hrl : Hid ((restF (flatN L j)).length < 64) := Lib.hid (by rw [restF_length]; exact Nat.mod_lt _ (by decide))
          have hG : Hid (blocksF (blocksF firstW (flatN L j)) (restF (flatN L j) ++ nthL L j) = blocksF firstW (flatN L (j + 1))) := Lib.hid (blocksF_append _ _ _).symm
          clear hs hrs hfl hll
          go_wp2_with (first | (refine wpList_load_row rfl 27 _ rfl w1.heap.size rfl 27 _ _ _ hrow'.out Tryd.underlying27 rfl (by kernel_rfl) ?_) | (go_at_call 25; refine (put_any (Tg := Tg) (blocksF firstW (flatN L j)) (blocksF firstW (flatN L (j + 1))) rv (restF (flatN L j)) (flatN L j).length (.slice sa (nthL L j).length sc) (nthL L j) _ (blocksF_ok _ _ firstW_ok) hrd'.out hrs'.out (bytes_drop _ _ (flatN_bytes L hby'.out j)) (hby'.out j) hrl.out hN.out hG.out hgr.out).mono ?_; rintro e w2 ⟨r', rfl, ho2, hb2⟩; obtain ⟨pa, pc, rfl⟩ := ho2.rd.slice; have ho2' := Lib.hid ho2; have hb2' := Lib.hid hb2; have hrow2 := Lib.hid ((hb2.block _ hzr).trans hrow'.out); clear ho2 hb2) | (refine wpList_store_row rfl 27 _ _ rfl w1.heap.size _ rfl rfl 27 _ hrow2.out (by kernel_rfl) (by simp) (by simp [Value.oneCell']) ?_))
          go_roundw
          case rel =>
            have hB2 : Below (w.heap.size + 1) Wx w2 := hbr.trans (hb2'.out.mono (by omega))
            have hz2 := hb2'.out.size
            have hrest : restF (restF (flatN L j) ++ nthL L j) = restF (flatN L (j + 1)) := (restF_append _ _).symm
            have ho3 := ho2'.out
            rw [hrest] at ho3
            refine ⟨j + 1, by omega, by go_num, below_setRow' (g := w1.heap.size) hB2 (by omega) _, by rw [size_setRow]; omega, .slice pa (restF (restF (flatN L j) ++ nthL L j)).length pc, ?_, ?_⟩
            · have hl : (((flatN L (j + 1)).length : Nat) : Int) = (flatN L j).length + (nthL L j).length := by rw [flatN, List.length_append]; exact Int.natCast_add _ _
              rw [hl]
              exact setRow_heap _ _ _ _ _ _ hrow2.out
            · rw [hrest]
              exact (ownB_setRow (g := w1.heap.size) ho3 (Nat.le_refl _) hzr _).rd
          case measure => simp [intOf]; omega
        · have hjk : j = k := by omega
          subst hjk
          have hfl := flatN_length L hlen'.out j
          have hN : Hid ((flatN L j).length ≤ 200000) := Lib.hid (by omega)
          have hrl : Hid ((restF (flatN L j)).length < 64) := Lib.hid (by rw [restF_length]; exact Nat.mod_lt _ (by decide))
          have hFb := Lib.hid (flatN_bytes L hby'.out j)
          have hgr := Lib.hid ((hbw'.block _ hlt).trans hg'.out)
          have hres := Lib.hid ((hbr.block w.heap.size (by omega)).trans hW0'.out)
          clear hfl
          have hlen32 : (endF (blocksF firstW (flatN L j)) (restF (flatN L j)) (flatN L j).length).length = 32 := writtenN_length _ 8
          have hi : (Tryd.prog.info? 32).map (·.size) = some (u8s (endF (blocksF firstW (flatN L j)) (restF (flatN L j)) (flatN L j).length)).size := by rw [u8s_size, hlen32]; kernel_rfl
          have hs2 : (u8s (zerosB 32)).size = (u8s (endF (blocksF firstW (flatN L j)) (restF (flatN L j)) (flatN L j).length)).size := by rw [u8s_size, u8s_size, hlen32, zerosB_length]
          have hi' := Lib.hid hi; have hs2' := Lib.hid hs2
          clear hi hs2 hlen32
          go_wp2_with (first | (refine wpList_load_row rfl 27 _ rfl w1.heap.size rfl 27 _ _ _ hrow'.out Tryd.underlying27 rfl (by kernel_rfl) ?_) | (go_at_call 26; refine (finish_any (Tg := Tg) (blocksF firstW (flatN L j)) _ rv (restF (flatN L j)) (flatN L j).length _ (blocksF_ok _ _ firstW_ok) hrd'.out (bytes_drop _ _ hFb.out) hrl.out hN.out rfl hgr.out).mono ?_; rintro e w2 ⟨rfl, hb2⟩; have hrow2' := Lib.hid ((hb2.block _ (by omega)).trans hres.out); have hB2' := Lib.hid (hbw'.trans (hb2.mono (by omega))); clear hb2) | (refine wpList_store_row rfl 32 _ _ rfl w.heap.size (u8s (endF (blocksF firstW (flatN L j)) (restF (flatN L j)) (flatN L j).length)) rfl rfl 32 _ hrow2'.out hi'.out hs2'.out (u8s_one _) ?_))
          try simp only [Exit.inBlock, Exit.then]
          exact bodyPost_ret (results_row_tmp rfl _ _ w.heap.size 32 _ _ _ rfl (setRow_heap _ _ _ _ _ _ hrow2'.out) Tryd.underlying32 rfl hi'.out) rfl ⟨rfl, below_setRow' (g := w.heap.size) hB2'.out (Nat.le_refl _) _⟩
end Go.Proofs.YtfaojjleapenaabDoor
namespace Go.Proofs.YtfaojjleapenaabDoor
open Go.RowKit Go.YtfaojjleapenaabDoor
set_option linter.unusedVariables false
variable {Tg Tf : TypeId}
theorem pieces_any (L : List (List Int)) (v : Value) (b o c : Nat) (hv : v = .slice (some ⟨b, o, none⟩) L.length c) (w : World) (hLc : L.length ≤ c) (hcm : c ≤ maxLen) (hbw : b < w.heap.size) (hcell : ∀ i, i < L.length → ∃ s, w.cell? ⟨b, o + i, none⟩ = some s ∧ RdB w s (nthL L i))
   (hn : L.length ≤ 20) (hlen : ∀ i, (nthL L i).length ≤ 10000) (hby : ∀ i, Bytes (nthL L i))
   (hg : w.heap[2]? = some (.cells (u32s constW) Tg (0, 0))) (hgf : w.heap[0]? = some (.cells firstW.cells Tf (0, 0))) :
    Calls Tryd.prog 19 #[v] w
     fun e w' => e = .returned (.tuple #[.agg (u8s (shaF L.flatten)), .int .i64 0]) ∧ Below w.heap.size w w' := by
  subst hv
  have h := pieces_some (Tg := Tg) (Tf := Tf) b o c L w hLc hcm hbw hcell hn hlen hby hg hgf
  rw [flatN_all] at h
  exact h
set_option maxRecDepth 100000 in
set_option maxHeartbeats 400000 in
theorem sum_any (D : List Int) (bv : Value) (l : List Int) (w : World) (hl : RdB w bv l) (hlb : Bytes l) (hlen : l.length ≤ 10000) (hD : shaF l = D)
   (hg : w.heap[2]? = some (.cells (u32s constW) Tg (0, 0))) (hgf : w.heap[0]? = some (.cells firstW.cells Tf (0, 0))) :
    Calls Tryd.prog 17 #[bv] w
     fun e w' => e = .returned (.tuple #[.agg (u8s D), .int .i64 0]) ∧ Below w.heap.size w w' := by
  obtain ⟨a, c, rfl⟩ := hl.slice
  have hlt : 2 < w.heap.size := (Array.getElem?_eq_some_iff.1 hg).1
  have hltf : 0 < w.heap.size := (Array.getElem?_eq_some_iff.1 hgf).1
  have hp : ∀ o1, Calls Tryd.prog 19 #[.slice (some ⟨w.heap.size + 1, 0, none⟩) 1 1] ((w.alloc o1).alloc (.cells #[.slice a l.length c] 24))
     fun e w' => e = .returned (.tuple #[.agg (u8s D), .int .i64 0]) ∧ Below ((w.alloc o1).alloc (.cells #[.slice a l.length c] 24)).heap.size ((w.alloc o1).alloc (.cells #[.slice a l.length c] 24)) w' := by
    intro o1
    have hB : Below w.heap.size w ((w.alloc o1).alloc (.cells #[.slice a l.length c] 24)) := ((Below.refl _ _).alloc (Nat.le_refl _) _).alloc (by simp) _
    have h := pieces_any (Tg := Tg) (Tf := Tf) [l] (.slice (some ⟨w.heap.size + 1, 0, none⟩) 1 1) (w.heap.size + 1) 0 1 rfl ((w.alloc o1).alloc (.cells #[.slice a l.length c] 24)) (Nat.le_refl _) (by decide) (by simp) (fun i hi => by
      have h0 : i = 0 := by simp at hi; exact hi
      subst h0
      exact ⟨_, cell_of_row _ _ _ _ _ _ (hn2 w _ _), hl.mono hB⟩) (by simp) (fun i => by
      cases i with
      | zero => exact hlen
      | succ i => simp [nthL]) (fun i => by
      cases i with
      | zero => exact hlb
      | succ i => intro j; simp [nthL, ith]) ((hB.block _ hlt).trans hg) ((hB.block _ hltf).trans hgf)
    rw [show ([l] : List (List Int)).flatten = l by simp, hD] at h
    exact h
  have hDl : D.length = 32 := by rw [← hD]; exact shaF_length l
  have hi : (Tryd.prog.info? 32).map (·.size) = some (u8s D).size := by rw [u8s_size, hDl]; kernel_rfl
  have hs2 : (u8s (zerosB 32)).size = (u8s D).size := by rw [u8s_size, u8s_size, hDl, zerosB_length]
  have hp' := Lib.hid hp; have hi' := Lib.hid hi; have hs2' := Lib.hid hs2
  clear hp hi hs2 hDl hD hl hlb hlen hg hgf
  go_enter Tryd.func17, Tryd.ntmps17
  go_wp2_with (first | (go_at_call 19; refine (hp'.out _).mono ?_; rintro e w1 ⟨rfl, hb1⟩; have hrow := Lib.hid (show w1.heap[w.heap.size]? = some (.cells (u8s (zerosB 32)) 32 (0, 0)) from (hb1.block _ (by simp; omega)).trans ((hp1 _ _ _ (by simp)).trans (heap_alloc_new w _))); have hB1 := Lib.hid ((((Below.refl _ _).alloc (Nat.le_refl _) _).alloc (by simp) _).trans (hb1.mono (by simp; omega))); clear hb1) | (refine wpList_store_row rfl 32 _ _ rfl w.heap.size (u8s D) rfl rfl 32 _ hrow.out hi'.out hs2'.out (u8s_one _) ?_))
  try simp only [Exit.inBlock, Exit.then]
  exact bodyPost_ret (results_row_tmp rfl _ _ w.heap.size 32 _ _ _ rfl (setRow_heap _ _ _ _ _ _ hrow.out) Tryd.underlying32 rfl hi'.out) rfl ⟨rfl, below_setRow' (g := w.heap.size) hB1.out (Nat.le_refl _) _⟩
end Go.Proofs.YtfaojjleapenaabDoor
namespace Go.Proofs.YtfaojjleapenaabDoor
open Go.RowKit Go.YtfaojjleapenaabDoor
set_option linter.unusedVariables false
variable {Tg Tf : TypeId}
def sL (s : ByteArray) : List Int := s.data.toList.map (fun b => (b.toNat : Int))
theorem sL_length (s : ByteArray) : (sL s).length = s.size := by simp [sL]
theorem sL_bytes (s : ByteArray) : Bytes (sL s) := by
  intro i
  simp only [sL, ith, List.getElem?_map]
  cases h : s.data.toList[i]? with
  | none => simp
  | some b => have := b.toNat_lt; simp; omega
theorem rd_str (w : World) (s : ByteArray) (hs : s.size ≤ 10000) (m : Nat × Nat) :
    RdB (w.drew.alloc (.cells (bytesRow s (grownCap w s.size 0 5)) 5 m)) (.slice (some ⟨w.heap.size, 0, none⟩) s.size (grownCap w s.size 0 5)) (sL s) := by
  refine .inr ⟨w.heap.size, 0, _, by rw [sL_length], by rw [sL_length]; exact grownCap_ge w _ _ _, grownCap_le_maxLen w _ _ _ (by unfold maxLen; omega), by simp, fun i hi => ?_⟩
  rw [sL_length] at hi
  have hrow : (w.drew.alloc (.cells (bytesRow s (grownCap w s.size 0 5)) 5 m)).heap[w.heap.size]? = some (.cells (bytesRow s (grownCap w s.size 0 5)) 5 m) := heap_alloc_new w.drew _
  rw [Nat.zero_add]
  unfold World.cell?
  rw [hrow]
  have hi' : i < s.data.size := hi
  have hg : s.data[i]? = some s.data[i] := Array.getElem?_eq_getElem hi'
  have hsz : (s.data.map (fun b => Value.int .u8 b.toNat)).size = s.size := by simp
  simp only [bytesRow, Array.getElem?_append, hsz, hi, if_true, Array.getElem?_map, hg, Option.map_some, sL, ith, List.getElem?_map, Array.getElem?_toList, Option.getD_some]
  simp
theorem storeNew {P : Program} {ops : Array Oper} {rest : List Oper} {o : Oper} {a : Act} {Q : Exit → Act → World → Prop} {old : Array Value} (w1 : World) (hgd : o.guard = none) (ty : TypeId) (x y : Operand) (ho : o.op = .store ty x y)
    (cells : Array Value) (t : TypeId) (hx : a.eval x = .pointer (some ⟨w1.heap.size, 0, none⟩)) (hy : a.eval y = .agg cells)
    (hi : (P.info? ty).map (·.size) = some cells.size) (hold : old.size = cells.size) (h1 : cells.all (·.oneCell') = true)
    (h : ∀ wx, wx.heap[w1.heap.size]? = some (.cells cells t (0, 0)) → Below w1.heap.size w1 wx → wpList P ops Q rest (a.put o.dst undef) wx) :
    wpList P ops Q (o :: rest) a (w1.alloc (.cells old t)) := by
  have hg := heap_alloc_new w1 (.cells old t)
  refine wpList_store_row hgd ty x y ho w1.heap.size cells hx hy t old hg hi hold h1 (h _ (setRow_heap _ _ _ _ _ _ hg) ?_)
  exact below_setRow' ((Below.refl _ _).alloc (Nat.le_refl _) _) (Nat.le_refl _) _
theorem Stop.go' (p : Prop) (h : Stop p) : p := h
theorem cellB {w : World} {g : Nat} {D : List Int} {T : TypeId} (hr : w.heap[g]? = some (.cells (u8s D) T (0, 0))) (hn : D.length = 32) (k : Nat) (x : Int) (hx : ith D k = x) (hk : k < 32) : w.cell? ⟨g, k, none⟩ = some (.int .u8 x) := by
  subst hx
  rw [cell_of_row _ _ _ _ _ _ hr]
  exact u8s_get _ _ (by omega)
theorem cells4 {w : World} {g : Nat} {a b c d : Value} {T : TypeId} (hr : w.heap[g]? = some (.cells #[a, b, c, d] T (0, 0))) : w.cell? ⟨g, 0, none⟩ = some a ∧ w.cell? ⟨g, 1, none⟩ = some b ∧ w.cell? ⟨g, 2, none⟩ = some c ∧ w.cell? ⟨g, 3, none⟩ = some d :=
  ⟨cell_of_row _ _ _ _ _ _ hr, cell_of_row _ _ _ _ _ _ hr, cell_of_row _ _ _ _ _ _ hr, cell_of_row _ _ _ _ _ _ hr⟩
set_option maxRecDepth 100000 in
set_option maxHeartbeats 400000 in
theorem is_any (D : List Int) (s : ByteArray) (x0 x1 x2 x3 x31 : Int) (w : World) (hs : s.size ≤ 10000) (hD : shaF (sL s) = D)
    (h0 : ith D 0 = x0) (h1 : ith D 1 = x1) (h2 : ith D 2 = x2) (h3 : ith D 3 = x3) (h31 : ith D 31 = x31)
   (hg : w.heap[2]? = some (.cells (u32s constW) Tg (0, 0))) (hgf : w.heap[0]? = some (.cells firstW.cells Tf (0, 0))) : 
    Calls Tryd.prog 23 #[.string s, .agg #[.int .u8 x0, .int .u8 x1, .int .u8 x2, .int .u8 x3], .int .u8 x31] w
     fun e w' => e = .returned (.bool true) ∧ Below w.heap.size w w' := by
  have hlt : 2 < w.heap.size := (Array.getElem?_eq_some_iff.1 hg).1
  have hltf : 0 < w.heap.size := (Array.getElem?_eq_some_iff.1 hgf).1
  have kc := fun (w : World) => run_bytes_of_string (P := Tryd.prog) w 9 24 5 s Tryd.underlying9 Tryd.underlying24 Tryd.underlying5
  have hsum : ∀ o1 m, Calls Tryd.prog 17 #[.slice (some ⟨w.heap.size + 1, 0, none⟩) s.size (grownCap (w.alloc o1) s.size 0 5)] ((w.alloc o1).drew.alloc (.cells (bytesRow s (grownCap (w.alloc o1) s.size 0 5)) 5 m)) fun e w' => e = .returned (.tuple #[.agg (u8s D), .int .i64 0]) ∧ Below (w.heap.size + 2) ((w.alloc o1).drew.alloc (.cells (bytesRow s (grownCap (w.alloc o1) s.size 0 5)) 5 m)) w' := by
    intro o1 m
    have hB : Below w.heap.size w ((w.alloc o1).drew.alloc (.cells (bytesRow s (grownCap (w.alloc o1) s.size 0 5)) 5 m)) := (((Below.refl _ _).alloc (Nat.le_refl _) _).drew).alloc (by simp) _
    have h := sum_any (Tg := Tg) (Tf := Tf) D _ _ _ (rd_str (w.alloc o1) s hs m) (sL_bytes s) (by rw [sL_length]; exact hs) hD ((hB.block _ hlt).trans hg) ((hB.block _ hltf).trans hgf)
    simpa using h
  have hDl : D.length = 32 := by rw [← hD]; exact shaF_length _
  have hi : (Tryd.prog.info? 32).map (·.size) = some (u8s D).size := by rw [u8s_size, hDl]; kernel_rfl
  have hs2 : 32 = (u8s D).size := by rw [u8s_size, hDl]
  have hDl' := Lib.hid hDl; have hi' := Lib.hid hi; have hs2' := Lib.hid hs2
  have hsum' := Lib.hid hsum
  clear hi hs2 hDl
  clear hsum hg hgf hD hs
  go_enter Tryd.func23, Tryd.ntmps23
  go_wp2_with (first | (go_at_call 17; refine (hsum'.out _ _).mono ?_; rintro e w1 ⟨rfl, hb1⟩; have hq1 := Lib.hid ((hb1.block w.heap.size (by omega)).trans ((hp1 _ _ _ (by simp)).trans (heap_alloc_new w _))); have hB1 := Lib.hid (((((Below.refl w.heap.size w).alloc (Nat.le_refl _) _).drew).alloc (by simp) _).trans (hb1.mono (by omega))); have hlt1 : w.heap.size < w1.heap.size := Nat.lt_of_lt_of_le (by simp; omega) hb1.size; clear hb1) | (refine storeNew w1 rfl 32 _ _ rfl (u8s D) 32 rfl rfl hi'.out (Eq.trans (by kernel_rfl) hs2'.out) (u8s_one _) ?_; intro wx hr hb2; have hq2 := (hb2.block _ hlt1).trans hq1.out; have hB2 := Lib.hid (hB1.out.trans (hb2.mono (Nat.le_of_lt hlt1))); clear hb2; have e0 := cellB hr hDl'.out 0 x0 h0 (by decide); have e1 := cellB hr hDl'.out 1 x1 h1 (by decide); have e2 := cellB hr hDl'.out 2 x2 h2 (by decide); have e3 := cellB hr hDl'.out 3 x3 h3 (by decide); have e31 := cellB hr hDl'.out 31 x31 h31 (by decide); obtain ⟨f0, f1, f2, f3⟩ := cells4 hq2; clear hr hq2; refine Stop.go' _ ?_))
  refine Stop.go ?_
  clear hsum' hi' hs2'
  go_wp2
  go_ret
  exact ⟨rfl, hB2.out⟩
end Go.Proofs.YtfaojjleapenaabDoor
namespace Go.Proofs.YtfaojjleapenaabDoor
open Go.RowKit Go.YtfaojjleapenaabDoor
set_option linter.unusedVariables false
variable {Tg Tf : TypeId}
theorem rd_rowM {w : World} {g : Nat} {cs : List Int} {E : TypeId} {m : Nat × Nat} (hg : w.heap[g]? = some (.cells (u8s cs) E m)) (n c : Nat) (hn : cs.length = n) (hc : n ≤ c) (hm : c ≤ maxLen) :
    RdB w (.slice (some ⟨g, 0, none⟩) n c) cs :=
  .inr ⟨g, 0, c, by rw [hn], by omega, hm, (Array.getElem?_eq_some_iff.1 hg).1, fun i hi => by rw [Nat.zero_add, cell_of_row _ _ _ _ _ _ hg]; exact u8s_get _ _ hi⟩
def StopP (p : Prop) : Prop := p
theorem Stop.go'' (p : Prop) (h : StopP p) : p := h
theorem StopP.go {p : Prop} (h : p) : StopP p := h
theorem abc_bytes : Bytes [97, 98, 99] := by
  intro i
  match i with
  | 0 => decide
  | 1 => decide
  | 2 => decide
  | n + 3 => simp [ith]
theorem sum_abc (A : List Int) (hA : shaF [97, 98, 99] = A) (w : World) (m : Nat × Nat)
   (hg : w.heap[2]? = some (.cells (u32s constW) Tg (0, 0))) (hgf : w.heap[0]? = some (.cells firstW.cells Tf (0, 0))) :
    Calls Tryd.prog 17 #[.slice (some ⟨w.heap.size, 0, none⟩) 3 3] (w.alloc (.cells #[.int .u8 97, .int .u8 98, .int .u8 99] 5 m))
     fun e w' => e = .returned (.tuple #[.agg (u8s A), .int .i64 0]) ∧ Below w.heap.size w w' := by
  have hlt : 2 < w.heap.size := (Array.getElem?_eq_some_iff.1 hg).1
  have hltf : 0 < w.heap.size := (Array.getElem?_eq_some_iff.1 hgf).1
  have hB : Below w.heap.size w (w.alloc (.cells #[.int .u8 97, .int .u8 98, .int .u8 99] 5 m)) := (Below.refl _ _).alloc (Nat.le_refl _) _
  refine (sum_any (Tg := Tg) (Tf := Tf) A _ [97, 98, 99] _ (rd_rowM (cs := [97, 98, 99]) (heap_alloc_new w _) 3 3 rfl (Nat.le_refl _) (by decide)) abc_bytes (by decide) hA ((hB.block _ hlt).trans hg) ((hB.block _ hltf).trans hgf)).mono ?_
  rintro e w' ⟨rfl, hb⟩
  exact ⟨rfl, hB.trans (hb.mono (by simp))⟩
theorem pieces_abc (A : List Int) (hA : shaF [97, 98, 99] = A) (w : World) (m1 m2 : Nat × Nat)
   (hg : w.heap[2]? = some (.cells (u32s constW) Tg (0, 0))) (hgf : w.heap[0]? = some (.cells firstW.cells Tf (0, 0))) :
    Calls Tryd.prog 19 #[.slice (some ⟨w.heap.size + 1 + 1, 0, none⟩) 3 3] (((w.alloc (.cells #[.int .u8 97] 5 m1)).alloc (.cells #[.int .u8 98, .int .u8 99] 5 m2)).alloc (.cells #[.slice (some ⟨w.heap.size, 0, none⟩) 1 1, .slice none 0 0, .slice (some ⟨w.heap.size + 1, 0, none⟩) 2 2] 24))
     fun e w' => e = .returned (.tuple #[.agg (u8s A), .int .i64 0]) ∧ Below w.heap.size w w' := by
  have hlt : 2 < w.heap.size := (Array.getElem?_eq_some_iff.1 hg).1
  have hltf : 0 < w.heap.size := (Array.getElem?_eq_some_iff.1 hgf).1
  generalize hW : ((w.alloc (.cells #[.int .u8 97] 5 m1)).alloc (.cells #[.int .u8 98, .int .u8 99] 5 m2)).alloc (.cells #[.slice (some ⟨w.heap.size, 0, none⟩) 1 1, .slice none 0 0, .slice (some ⟨w.heap.size + 1, 0, none⟩) 2 2] 24) = W
  have hB : Below w.heap.size w W := by rw [← hW]; exact (((Below.refl _ _).alloc (Nat.le_refl _) _).alloc (by simp) _).alloc (by simp; omega) _
  have hz : w.heap.size + 3 = W.heap.size := by rw [← hW]; simp
  have r1 : W.heap[w.heap.size]? = some (.cells (u8s [97]) 5 m1) := by rw [← hW]; exact (hp1 _ _ _ (by simp; omega)).trans ((hp1 _ _ _ (by simp)).trans (heap_alloc_new w _))
  have r2 : W.heap[w.heap.size + 1]? = some (.cells (u8s [98, 99]) 5 m2) := by rw [← hW]; exact (hp1 _ _ _ (by simp)).trans (hn2 w _ _)
  have r3 : W.heap[w.heap.size + 1 + 1]? = some (.cells #[.slice (some ⟨w.heap.size, 0, none⟩) 1 1, .slice none 0 0, .slice (some ⟨w.heap.size + 1, 0, none⟩) 2 2] 24 (0, 0)) := by rw [← hW]; exact hn3 w _ _ _
  have h := pieces_any (Tg := Tg) (Tf := Tf) [[97], [], [98, 99]] (.slice (some ⟨w.heap.size + 1 + 1, 0, none⟩) 3 3) (w.heap.size + 1 + 1) 0 3 rfl W (Nat.le_refl _) (by decide) (by omega) (fun i hi => by
    rw [Nat.zero_add]
    match i, hi with
    | 0, _ => exact ⟨_, cell_of_row _ _ _ _ _ _ r3, rd_rowM r1 1 1 rfl (Nat.le_refl _) (by decide)⟩
    | 1, _ => exact ⟨_, cell_of_row _ _ _ _ _ _ r3, .inl ⟨none, 0, rfl, fun _ => rfl, rfl⟩⟩
    | 2, _ => exact ⟨_, cell_of_row _ _ _ _ _ _ r3, rd_rowM r2 2 2 rfl (Nat.le_refl _) (by decide)⟩) (by decide) (fun i => by
    match i with
    | 0 => decide
    | 1 => decide
    | 2 => decide
    | n + 3 => simp [nthL]) (fun i => by
    match i with
    | 0 => exact fun j => match j with | 0 => by decide | n + 1 => by simp [nthL, ith]
    | 1 => exact fun j => by simp [nthL, ith]
    | 2 => exact fun j => match j with | 0 => by decide | 1 => by decide | n + 2 => by simp [nthL, ith]
    | n + 3 => exact fun j => by simp [nthL, ith]) ((hB.block _ hlt).trans hg) ((hB.block _ hltf).trans hgf)
  rw [show ([[97], [], [98, 99]] : List (List Int)).flatten = [97, 98, 99] from rfl, hA] at h
  refine h.mono ?_
  rintro e w' ⟨rfl, hb⟩
  exact ⟨rfl, hB.trans (hb.mono (by omega))⟩
theorem is_empty (w : World)
   (hg : w.heap[2]? = some (.cells (u32s constW) Tg (0, 0))) (hgf : w.heap[0]? = some (.cells firstW.cells Tf (0, 0))) :
    Calls Tryd.prog 23 #[.string { data := #[] }, .agg #[.int .u8 227, .int .u8 176, .int .u8 196, .int .u8 66], .int .u8 85] w fun e w' => e = .returned (.bool true) ∧ Below w.heap.size w w' := by
  have h := sha_empty
  simp only [Bool.and_eq_true, beq_iff_eq] at h
  obtain ⟨⟨⟨⟨h0, h1⟩, h2⟩, h3⟩, h31⟩ := h
  exact is_any (shaF []) _ _ _ _ _ _ w (by decide) rfl h0 h1 h2 h3 h31 hg hgf
theorem is_abc (w : World)
   (hg : w.heap[2]? = some (.cells (u32s constW) Tg (0, 0))) (hgf : w.heap[0]? = some (.cells firstW.cells Tf (0, 0))) :
    Calls Tryd.prog 23 #[.string { data := #[97, 98, 99] }, .agg #[.int .u8 186, .int .u8 120, .int .u8 22, .int .u8 191], .int .u8 173] w fun e w' => e = .returned (.bool true) ∧ Below w.heap.size w w' := by
  have h := sha_abc
  simp only [Bool.and_eq_true, beq_iff_eq] at h
  obtain ⟨⟨⟨⟨h0, h1⟩, h2⟩, h3⟩, h31⟩ := h
  exact is_any (shaF [97, 98, 99]) _ _ _ _ _ _ w (by decide) rfl h0 h1 h2 h3 h31 hg hgf
theorem heq_ten (A : List Int) (w4 : World) (h : (Op.equalIn (9998 + 2) 32 (.agg (u8s A)) (.agg (u8s A))).run Tryd.prog w4 = .ok true w4) : (Op.equalIn 10000 32 (.agg (u8s A)) (.agg (u8s A))).run Tryd.prog w4 = .ok true w4 := h
theorem fin10 {B g : Nat} {w0 w2 : World} {a0 a1 a2 a3 a4 a5 a6 a7 a8 a9 x0 x1 x2 x3 x4 x5 x6 x7 x8 x9 : Value} {T : TypeId} (hrow : w2.heap[g]? = some (.cells #[a0, a1, a2, a3, a4, a5, a6, a7, a8, a9] T (0, 0))) (hB : Below B w0 w2) (hBg : B ≤ g) :
    ((((((((((w2.setCell ⟨g, 0, none⟩ x0).setCell ⟨g, 1, none⟩ x1).setCell ⟨g, 2, none⟩ x2).setCell ⟨g, 3, none⟩ x3).setCell ⟨g, 4, none⟩ x4).setCell ⟨g, 5, none⟩ x5).setCell ⟨g, 6, none⟩ x6).setCell ⟨g, 7, none⟩ x7).setCell ⟨g, 8, none⟩ x8).setCell ⟨g, 9, none⟩ x9).heap[g]? = some (.cells #[x0, x1, x2, x3, x4, x5, x6, x7, x8, x9] T (0, 0)) ∧
    Below B w0 ((((((((((w2.setCell ⟨g, 0, none⟩ x0).setCell ⟨g, 1, none⟩ x1).setCell ⟨g, 2, none⟩ x2).setCell ⟨g, 3, none⟩ x3).setCell ⟨g, 4, none⟩ x4).setCell ⟨g, 5, none⟩ x5).setCell ⟨g, 6, none⟩ x6).setCell ⟨g, 7, none⟩ x7).setCell ⟨g, 8, none⟩ x8).setCell ⟨g, 9, none⟩ x9) := by
  rw [set10_world hrow]
  exact ⟨setRow_heap _ _ _ _ _ _ hrow, below_setRow' (g := g) hB hBg _⟩
theorem fin10' {B g : Nat} {w0 W w2 : World} {a0 a1 a2 a3 a4 a5 a6 a7 a8 a9 x0 x1 x2 x3 x4 x5 x6 x7 x8 x9 : Value} {T : TypeId} (hb : Below W.heap.size W w2) (hrow : W.heap[g]? = some (.cells #[a0, a1, a2, a3, a4, a5, a6, a7, a8, a9] T (0, 0))) (hS : Below B w0 W) (hBW : B ≤ W.heap.size) (hBg : B ≤ g) :
    ((((((((((w2.setCell ⟨g, 0, none⟩ x0).setCell ⟨g, 1, none⟩ x1).setCell ⟨g, 2, none⟩ x2).setCell ⟨g, 3, none⟩ x3).setCell ⟨g, 4, none⟩ x4).setCell ⟨g, 5, none⟩ x5).setCell ⟨g, 6, none⟩ x6).setCell ⟨g, 7, none⟩ x7).setCell ⟨g, 8, none⟩ x8).setCell ⟨g, 9, none⟩ x9).heap[g]? = some (.cells #[x0, x1, x2, x3, x4, x5, x6, x7, x8, x9] T (0, 0)) ∧
    Below B w0 ((((((((((w2.setCell ⟨g, 0, none⟩ x0).setCell ⟨g, 1, none⟩ x1).setCell ⟨g, 2, none⟩ x2).setCell ⟨g, 3, none⟩ x3).setCell ⟨g, 4, none⟩ x4).setCell ⟨g, 5, none⟩ x5).setCell ⟨g, 6, none⟩ x6).setCell ⟨g, 7, none⟩ x7).setCell ⟨g, 8, none⟩ x8).setCell ⟨g, 9, none⟩ x9) :=
  fin10 ((hb.block g (Array.getElem?_eq_some_iff.1 hrow).1).trans hrow) (hS.trans (hb.mono hBW)) hBg
theorem add_65 (w wz : World) (b : Nat) (hB : Below w.heap.size w wz) (hrow : wz.heap[b]? = some (.cells (u8s (zerosB 65)) 5 (0, 0)))
   (hg : w.heap[2]? = some (.cells (u32s constW) Tg (0, 0))) :
    Calls Tryd.prog 7 #[.agg #[.int .u32 firstW.a, .int .u32 firstW.b, .int .u32 firstW.c, .int .u32 firstW.d, .int .u32 firstW.e, .int .u32 firstW.f, .int .u32 firstW.g, .int .u32 firstW.h, .slice none 0 0, .int .i64 0], .slice (some ⟨b, 0, none⟩) 65 65] wz
     fun e w' => ∃ (G : V8) (a : Option Addr) (c : Nat), e = .returned (.tuple #[.agg #[.int .u32 G.a, .int .u32 G.b, .int .u32 G.c, .int .u32 G.d, .int .u32 G.e, .int .u32 G.f, .int .u32 G.g, .int .u32 G.h, .slice a 1 c, .int .i64 65], .int .i64 0]) ∧ Below wz.heap.size wz w' := by
  have hlt : 2 < w.heap.size := (Array.getElem?_eq_some_iff.1 hg).1
  refine (add_ok (Tg := Tg) firstW _ (.slice none 0 0) [] 0 (.slice (some ⟨b, 0, none⟩) 65 65) (zerosB 65) wz firstW_ok (.inl ⟨none, 0, rfl, fun _ => rfl, rfl⟩) (rd_rowM hrow 65 65 (by simp [zerosB]) (Nat.le_refl _) (by decide)) bytes_nil (bytes_replicate 65) rfl (by simp [zerosB]) rfl ((hB.block _ hlt).trans hg)).mono ?_
  rintro e w' ⟨r', rfl, ho, hb⟩
  obtain ⟨a, c, rfl⟩ := ho.rd.slice
  exact ⟨_, a, c, rfl, hb⟩
set_option maxRecDepth 100000 in
set_option maxHeartbeats 20000000 in
theorem alive_any (w : World) (A : List Int) (hA : shaF [97, 98, 99] = A)
   (hg : w.heap[2]? = some (.cells (u32s constW) Tg (0, 0))) (hgf : w.heap[0]? = some (.cells firstW.cells Tf (0, 0))) : 
    Calls Tryd.prog 6 #[] w fun e w' => e = .returned (.bool true) ∧ Below w.heap.size w w' := by
  have hlt : 2 < w.heap.size := (Array.getElem?_eq_some_iff.1 hg).1
  have hltf : 0 < w.heap.size := (Array.getElem?_eq_some_iff.1 hgf).1
  have kc := fun (w : World) (C : Array Value) (n c : Nat) => Lib.run_convert_bytes_const (P := Tryd.prog) w 24 5 C n c Tryd.underlying24 Tryd.underlying5
  have kc2 : ∀ (w : World) (o : Obj) (C : Array Value) (n c : Nat), (convert 24 24 (.slice (some ⟨w.heap.size + 1, 0, none⟩) n c)).run Tryd.prog ((w.alloc o).alloc (.cells C 5)) = .ok (.slice (some ⟨w.heap.size + 1, 0, none⟩) n c) ((w.alloc o).alloc (.cells C 5 (C.size, C.size + 1))) := fun w o C n c => by
    have h := kc (w.alloc o) C n c
    rw [World.size_alloc] at h
    exact h
  have hDl : A.length = 32 := by rw [← hA]; exact shaF_length _
  have hi : (Tryd.prog.info? 32).map (·.size) = some (u8s A).size := by rw [u8s_size, hDl]; kernel_rfl
  have hs2 : 32 = (u8s A).size := by rw [u8s_size, hDl]
  have hi' := Lib.hid hi; have hs2' := Lib.hid hs2; have hA' := Lib.hid hA; have hg' := Lib.hid hg; have hgf' := Lib.hid hgf
  clear hi hs2 hDl hA hg hgf
  go_enter Tryd.func6, Tryd.ntmps6
  go_wp2_with (first | (go_at_call 17; refine (sum_abc (Tg := Tg) (Tf := Tf) A hA'.out w _ hg'.out hgf'.out).mono ?_; rintro e w1 ⟨rfl, hb1⟩; have hb1' := Lib.hid hb1; have hz1 := hb1.size; clear hb1) | (refine storeNew w1 rfl 32 _ _ rfl (u8s A) 32 rfl rfl hi'.out (Eq.trans (by kernel_rfl) hs2'.out) (u8s_one _) ?_; intro wx hr hb2; have hz2 : w1.heap.size < wx.heap.size := (Array.getElem?_eq_some_iff.1 hr).1; have hq1 := Lib.hid hr; have hB2 := Lib.hid (hb1'.out.trans (hb2.mono hz1)); have hz2w : w.heap.size ≤ w1.heap.size := hz1; clear hb2 hr hb1' hz1; (refine Stop.go' _ ?_)))
  generalize w1.heap.size = g1 at *
  clear w1
  refine Stop.go ?_
  have hgx := (hB2.out.block _ hlt).trans hg'.out
  have hgfx := (hB2.out.block _ hltf).trans hgf'.out
  have hgx' := Lib.hid hgx; have hgfx' := Lib.hid hgfx
  clear hgx hgfx
  go_wp2_with (first | (go_at_call 19; refine (pieces_abc (Tg := Tg) (Tf := Tf) A hA'.out wx _ _ hgx'.out hgfx'.out).mono ?_; rintro e w1 ⟨rfl, hb1⟩; have hb1' := Lib.hid hb1; have hz1 := hb1.size; clear hb1) | (refine storeNew w1 rfl 32 _ _ rfl (u8s A) 32 rfl rfl hi'.out (Eq.trans (by kernel_rfl) hs2'.out) (u8s_one _) ?_; intro wy hr hb2; have hz3 : w1.heap.size < wy.heap.size := (Array.getElem?_eq_some_iff.1 hr).1; have hq2 := Lib.hid hr; have hb3 := Lib.hid (hb1'.out.trans (hb2.mono hz1)); have hz3w : wx.heap.size ≤ w1.heap.size := hz1; clear hb2 hr hb1' hz1; (refine Stop.go' _ ?_)))
  generalize w1.heap.size = g2 at *
  clear w1 hgx' hgfx'
  have hq1y := Lib.hid ((hb3.out.block _ hz2).trans hq1.out)
  have hzx := hB2.out.size
  have hB3 := Lib.hid (hB2.out.trans (hb3.out.mono hzx))
  have hne : g1 < g2 := by omega
  have hz4 : g1 < wy.heap.size := by omega
  have hz5 : w.heap.size ≤ wy.heap.size := by omega
  clear hb3 hq1 hB2 hz2 hz3w hzx
  refine Stop.go ?_
  go_upto_region 3 with fail
  go_cut [5, 6] (fun s5 s6 wz => ∃ (g5 : Nat) (G : V8) (a : Option Addr) (c : Nat), s5 = .pointer (some ⟨g5, 0, none⟩) ∧ s6 = .int .i64 0 ∧ wy.heap.size ≤ g5 ∧ wz.heap[g5]? = some (.cells #[.int .u32 G.a, .int .u32 G.b, .int .u32 G.c, .int .u32 G.d, .int .u32 G.e, .int .u32 G.f, .int .u32 G.g, .int .u32 G.h, .slice a 1 c, .int .i64 65] 27 (0, 0)) ∧ Below wy.heap.size wy wz)
  case first =>
    have hgy := (hB3.out.block _ hlt).trans hg'.out
    have hlty : 2 < wy.heap.size := by omega
    have hltfy : 0 < wy.heap.size := by omega
    have hst : ∀ wz, Below wy.heap.size wy wz → _ := fun wz hb => start_any (Tf := Tf) wz ((hb.block _ hltfy).trans ((hB3.out.block _ hltf).trans hgf'.out))
    have had : ∀ wz b, Below wy.heap.size wy wz → wz.heap[b]? = some (Obj.cells (u8s (zerosB 65)) 5 (0, 0)) → _ := fun wz b hb hr => add_65 (Tg := Tg) wy wz b hb hr hgy
    simp only [firstW] at hst had
    have hst' := Lib.hid hst; have had' := Lib.hid had
    have hmk := fun wz => run_makeB (P := Tryd.prog) wz 24 5 Tryd.underlying24 (by kernel_rfl) 65 65 (Nat.le_refl _) (by decide)
    rw [show (((65 : Nat) : Int)) = 65 from rfl] at hmk
    clear hst had hgy hi' hs2' hA' kc kc2 hq2 hq1y
    go_region_with (first | (go_at_call 13; refine (hst'.out _ ?_).mono ?_; (first | exact (Below.refl _ _).drew | exact ((Below.refl _ _).alloc (Nat.le_refl _) _).drew | exact (((Below.refl _ _).alloc (Nat.le_refl _) _).alloc (by rw [World.size_alloc]; exact Nat.le_succ _) _).drew); rintro e w1 ⟨rfl, hb1⟩; obtain ⟨hc1, hf1⟩ := bcell hb1; have hz1 := hb1.size; have hb1' := Lib.hid hb1; have hz1w : wy.heap.size ≤ w1.heap.size := (by (try simp only [World.size_drew, World.size_alloc] at hz1); omega); have hS1 := Lib.hid (show Below wy.heap.size wy w1 from (by first | exact (Below.refl _ wy).drew.trans hb1 | exact ((Below.refl _ wy).alloc (Nat.le_refl _) _).drew.trans (hb1.mono (by rw [World.size_drew, World.size_alloc]; omega)) | exact (((Below.refl _ wy).alloc (Nat.le_refl _) _).alloc (by rw [World.size_alloc]; exact Nat.le_succ _) _).drew.trans (hb1.mono (by rw [World.size_drew, World.size_alloc, World.size_alloc]; omega)))); (try simp only [World.size_drew, World.size_alloc] at hz1); have q1 : w1.heap.size < w1.heap.size + 1 + 1 := Nat.lt_succ_of_lt (Nat.lt_succ_self _); have q2 : wy.heap.size < wy.heap.size + 1 + 1 := Nat.lt_succ_of_lt (Nat.lt_succ_self _); (first | have q3 := Nat.lt_of_succ_le hz1 | skip); (first | have q4 := Nat.lt_of_succ_lt q3 | skip); (first | have q5 := Nat.lt_succ_of_lt q3 | skip); (first | have q6 := Nat.lt_succ_of_lt q4 | skip); have hs1 := fun b (h : b < _) => Nat.lt_of_lt_of_le h hb1'.out.size; have hs1' := fun b (h : b < _) => Nat.lt_succ_of_lt (Nat.lt_of_lt_of_le h hb1'.out.size); (try simp only [World.size_drew, World.cell?_drew, World.frozen?_drew] at hc1 hf1 hs1 hs1'); clear hb1) | (go_at_call 7; refine (had'.out _ _ ?_ ?_).mono ?_; (first | exact hS1.out | exact hS1.out.drew | exact (hS1.out.alloc hz1w _) | exact (hS1.out.alloc hz1w _).drew | exact ((hS1.out.alloc hz1w _).alloc (by rw [World.size_alloc]; omega) _) | exact ((hS1.out.alloc hz1w _).alloc (by rw [World.size_alloc]; omega) _).drew); (first | exact heap_alloc_new w1 _ | exact (hp1 (w1.alloc _) _ w1.heap.size (by rw [World.size_alloc]; omega)).trans (heap_alloc_new w1 _) | exact hn2 w1 _ _ | exact (hb1'.out.block wy.heap.size (by (try rw [World.size_drew]); (try rw [World.size_alloc]); (try rw [World.size_alloc]); omega)).trans (heap_alloc_new wy _) | exact (hb1'.out.block (wy.heap.size + 1) (by (try rw [World.size_drew]); (try rw [World.size_alloc]); (try rw [World.size_alloc]); omega)).trans (hn2 wy _ _) | exact (hb1'.out.block wy.heap.size (by (try rw [World.size_drew]); (try rw [World.size_alloc]); (try rw [World.size_alloc]); omega)).trans ((hp1 (wy.alloc _) _ wy.heap.size (by rw [World.size_alloc]; omega)).trans (heap_alloc_new wy _)) | exact (hp1 w1 _ wy.heap.size (by omega)).trans ((hb1'.out.block wy.heap.size (by (try rw [World.size_drew]); (try rw [World.size_alloc]); (try rw [World.size_alloc]); omega)).trans (heap_alloc_new wy _))); rintro e w2 ⟨G, ra, rc, rfl, hb2⟩; obtain ⟨hc2, hf2⟩ := bcell hb2; have hb2' := Lib.hid hb2; have hs2 := fun b (h : b < _) => Nat.lt_of_lt_of_le h hb2'.out.size; have hs2' := fun b (h : b < _) => Nat.lt_succ_of_lt (Nat.lt_of_lt_of_le h hb2'.out.size); (try simp only [World.size_drew, World.cell?_drew, World.frozen?_drew] at hc2 hf2 hs2 hs2'); clear hb2))
    all_goals go_wp2_with fail
    all_goals go_meet
    · have hB2 := (hS1.out.alloc hz1w _).trans (hb2'.out.mono (by first | omega | (rw [World.size_alloc]; omega) | (rw [World.size_alloc, World.size_alloc]; omega) | (rw [World.size_drew, World.size_alloc]; omega) | (rw [World.size_drew, World.size_alloc, World.size_alloc]; omega)))
      exact ⟨w2.heap.size, G, ra, rc, rfl, rfl, hB2.size, heap_alloc_new w2 _, hB2.alloc hB2.size _⟩
    · have hf := fun x0 x1 x2 x3 x4 x5 x6 x7 x8 x9 => fin10' (x0 := x0) (x1 := x1) (x2 := x2) (x3 := x3) (x4 := x4) (x5 := x5) (x6 := x6) (x7 := x7) (x8 := x8) (x9 := x9) (g := w1.heap.size + 1) hb2'.out (hn2 w1 _ _) ((hS1.out.alloc hz1w _).alloc (by first | omega | (rw [World.size_alloc]; omega) | (rw [World.size_alloc, World.size_alloc]; omega) | (rw [World.size_drew, World.size_alloc]; omega) | (rw [World.size_drew, World.size_alloc, World.size_alloc]; omega)) _) (by first | omega | (rw [World.size_alloc]; omega) | (rw [World.size_alloc, World.size_alloc]; omega) | (rw [World.size_drew, World.size_alloc]; omega) | (rw [World.size_drew, World.size_alloc, World.size_alloc]; omega)) (by omega)
      exact ⟨w1.heap.size + 1, G, ra, rc, rfl, rfl, by omega, (hf _ _ _ _ _ _ _ _ _ _).1, (hf _ _ _ _ _ _ _ _ _ _).2⟩
    · have hf := fun x0 x1 x2 x3 x4 x5 x6 x7 x8 x9 => fin10' (x0 := x0) (x1 := x1) (x2 := x2) (x3 := x3) (x4 := x4) (x5 := x5) (x6 := x6) (x7 := x7) (x8 := x8) (x9 := x9) (g := w1.heap.size) hb2'.out ((hp1 (w1.alloc _) _ w1.heap.size (by first | omega | (rw [World.size_alloc]; omega) | (rw [World.size_alloc, World.size_alloc]; omega) | (rw [World.size_drew, World.size_alloc]; omega) | (rw [World.size_drew, World.size_alloc, World.size_alloc]; omega))).trans (heap_alloc_new w1 _)) ((hS1.out.alloc hz1w _).alloc (by first | omega | (rw [World.size_alloc]; omega) | (rw [World.size_alloc, World.size_alloc]; omega) | (rw [World.size_drew, World.size_alloc]; omega) | (rw [World.size_drew, World.size_alloc, World.size_alloc]; omega)) _) (by first | omega | (rw [World.size_alloc]; omega) | (rw [World.size_alloc, World.size_alloc]; omega) | (rw [World.size_drew, World.size_alloc]; omega) | (rw [World.size_drew, World.size_alloc, World.size_alloc]; omega)) (by omega)
      exact ⟨w1.heap.size, G, ra, rc, rfl, rfl, by omega, (hf _ _ _ _ _ _ _ _ _ _).1, (hf _ _ _ _ _ _ _ _ _ _).2⟩
    · have hB2 := hS1.out.trans (hb2'.out.mono hz1w)
      exact ⟨w2.heap.size, G, ra, rc, rfl, rfl, hB2.size, heap_alloc_new w2 _, hB2.alloc hB2.size _⟩
    · have hf := fun x0 x1 x2 x3 x4 x5 x6 x7 x8 x9 => fin10' (x0 := x0) (x1 := x1) (x2 := x2) (x3 := x3) (x4 := x4) (x5 := x5) (x6 := x6) (x7 := x7) (x8 := x8) (x9 := x9) (g := w1.heap.size) hb2'.out (heap_alloc_new w1 _) (hS1.out.alloc hz1w _) (by first | omega | (rw [World.size_alloc]; omega) | (rw [World.size_alloc, World.size_alloc]; omega) | (rw [World.size_drew, World.size_alloc]; omega) | (rw [World.size_drew, World.size_alloc, World.size_alloc]; omega)) (by omega)
      exact ⟨w1.heap.size, G, ra, rc, rfl, rfl, by omega, (hf _ _ _ _ _ _ _ _ _ _).1, (hf _ _ _ _ _ _ _ _ _ _).2⟩
    · have hf := fun x0 x1 x2 x3 x4 x5 x6 x7 x8 x9 => fin10' (x0 := x0) (x1 := x1) (x2 := x2) (x3 := x3) (x4 := x4) (x5 := x5) (x6 := x6) (x7 := x7) (x8 := x8) (x9 := x9) (g := wy.heap.size + 1) hb2'.out ((hb1'.out.block (wy.heap.size + 1) (by first | omega | (rw [World.size_alloc]; omega) | (rw [World.size_alloc, World.size_alloc]; omega) | (rw [World.size_drew, World.size_alloc]; omega) | (rw [World.size_drew, World.size_alloc, World.size_alloc]; omega))).trans (hn2 wy _ _)) (hS1.out) (by first | omega | (rw [World.size_alloc]; omega) | (rw [World.size_alloc, World.size_alloc]; omega) | (rw [World.size_drew, World.size_alloc]; omega) | (rw [World.size_drew, World.size_alloc, World.size_alloc]; omega)) (by omega)
      exact ⟨wy.heap.size + 1, G, ra, rc, rfl, rfl, by omega, (hf _ _ _ _ _ _ _ _ _ _).1, (hf _ _ _ _ _ _ _ _ _ _).2⟩
    · have hf := fun x0 x1 x2 x3 x4 x5 x6 x7 x8 x9 => fin10' (x0 := x0) (x1 := x1) (x2 := x2) (x3 := x3) (x4 := x4) (x5 := x5) (x6 := x6) (x7 := x7) (x8 := x8) (x9 := x9) (g := wy.heap.size) hb2'.out ((hp1 w1 _ wy.heap.size (by omega)).trans ((hb1'.out.block wy.heap.size (by first | omega | (rw [World.size_alloc]; omega) | (rw [World.size_alloc, World.size_alloc]; omega) | (rw [World.size_drew, World.size_alloc]; omega) | (rw [World.size_drew, World.size_alloc, World.size_alloc]; omega))).trans (heap_alloc_new wy _))) (hS1.out.alloc hz1w _) (by first | omega | (rw [World.size_alloc]; omega) | (rw [World.size_alloc, World.size_alloc]; omega) | (rw [World.size_drew, World.size_alloc]; omega) | (rw [World.size_drew, World.size_alloc, World.size_alloc]; omega)) (by omega)
      exact ⟨wy.heap.size, G, ra, rc, rfl, rfl, by omega, (hf _ _ _ _ _ _ _ _ _ _).1, (hf _ _ _ _ _ _ _ _ _ _).2⟩
    · have hf := fun x0 x1 x2 x3 x4 x5 x6 x7 x8 x9 => fin10' (x0 := x0) (x1 := x1) (x2 := x2) (x3 := x3) (x4 := x4) (x5 := x5) (x6 := x6) (x7 := x7) (x8 := x8) (x9 := x9) (g := wy.heap.size) hb2'.out ((hb1'.out.block wy.heap.size (by first | omega | (rw [World.size_alloc]; omega) | (rw [World.size_alloc, World.size_alloc]; omega) | (rw [World.size_drew, World.size_alloc]; omega) | (rw [World.size_drew, World.size_alloc, World.size_alloc]; omega))).trans ((hp1 (wy.alloc _) _ wy.heap.size (by first | omega | (rw [World.size_alloc]; omega) | (rw [World.size_alloc, World.size_alloc]; omega) | (rw [World.size_drew, World.size_alloc]; omega) | (rw [World.size_drew, World.size_alloc, World.size_alloc]; omega))).trans (heap_alloc_new wy _))) (hS1.out) (by first | omega | (rw [World.size_alloc]; omega) | (rw [World.size_alloc, World.size_alloc]; omega) | (rw [World.size_drew, World.size_alloc]; omega) | (rw [World.size_drew, World.size_alloc, World.size_alloc]; omega)) (by omega)
      exact ⟨wy.heap.size, G, ra, rc, rfl, rfl, by omega, (hf _ _ _ _ _ _ _ _ _ _).1, (hf _ _ _ _ _ _ _ _ _ _).2⟩
  case rest =>
    obtain ⟨g5, G, ra, rc, rfl, rfl, hg5, hq5, hb5⟩ := hcut
    have hAl : A.length = 32 := by rw [← hA'.out]; exact shaF_length _
    have hgc := (hb5.block _ (by omega)).trans ((hB3.out.block _ hlt).trans hg'.out)
    have hgfc := (hb5.block _ (by omega)).trans ((hB3.out.block _ hltf).trans hgf'.out)
    have hBc := hB3.out.trans (hb5.mono hz5)
    have hr1c := (hb5.block _ hz4).trans hq1y.out
    have hr2c := (hb5.block _ hz3).trans hq2.out
    have hgs : g5 < wc.heap.size := (Array.getElem?_eq_some_iff.1 hq5).1
    have hzc : w.heap.size ≤ wc.heap.size := by omega
    have hltc : 2 < wc.heap.size := by omega
    have hltfc : 0 < wc.heap.size := by omega
    have hs1c : g1 < wc.heap.size := by omega
    have hs2c : g2 < wc.heap.size := by omega
    have heq := fun (wz : World) => run_eqArr (P := Tryd.prog) wz 32 5 32 Tryd.underlying32 Tryd.underlying5 (by kernel_rfl) A A hAl hAl
    simp only [decide_true] at heq
    have hAl' := Lib.hid hAl; have hgc' := Lib.hid hgc; have hgfc' := Lib.hid hgfc; have hBc' := Lib.hid hBc; have hr1' := Lib.hid hr1c; have hr2' := Lib.hid hr2c; have hq5' := Lib.hid hq5
    clear hb5 hAl hgc hgfc hBc hr1c hr2c hq5 hq1y hq2 hB3 hz3 hz4 hne hg5 hlt hltf hg' hgf' hi' hs2' hz5 hz2w kc kc2
    go_wp2_with (go_at_call 23; refine (is_empty (Tg := Tg) (Tf := Tf) wc hgc'.out hgfc'.out).mono ?_; rintro e w3 ⟨rfl, hb3⟩; have hb3' := Lib.hid hb3; have hz3 := hb3.size; clear hb3; refine Stop.go'' _ ?_)
    refine StopP.go ?_
    clear heq
    go_wp2_with (go_at_call 23; refine (is_abc (Tg := Tg) (Tf := Tf) w3 ((hb3'.out.block _ hltc).trans hgc'.out) ((hb3'.out.block _ hltfc).trans hgfc'.out)).mono ?_; rintro e w4 ⟨rfl, hb4⟩; refine Stop.go'' _ ?_)
    have hb5 := hb3'.out.trans (hb4.mono hz3)
    have l1 := Lib.hid ((hb5.block _ hs1c).trans hr1'.out)
    have l2 := Lib.hid ((hb5.block _ hs2c).trans hr2'.out)
    have hi2 := Lib.hid (show (Tryd.prog.info? 32).map (·.size) = some (u8s A).size from (by rw [u8s_size, hAl'.out]; kernel_rfl))
    have hr5 := (hb5.block _ hgs).trans hq5'.out
    have c8 : w4.cell? ⟨g5, 8, none⟩ = some (.slice ra 1 rc) := cell_of_row _ _ _ _ _ _ hr5
    have c9 : w4.cell? ⟨g5, 9, none⟩ = some (.int .i64 65) := cell_of_row _ _ _ _ _ _ hr5
    have hB5 := Lib.hid (hBc'.out.trans (hb5.mono hzc))
    have heq := run_equalArr (P := Tryd.prog) w4 9998 32 5 32 Tryd.underlying32 Tryd.underlying5 (by kernel_rfl) A A hAl'.out hAl'.out
    rw [decide_eq_true rfl] at heq
    have heq := heq_ten A w4 heq
    clear hb3' hb4 hb5 hr5 hBc' hr1' hr2' hq5' hgc' hgfc'
    refine StopP.go ?_
    go_wp2_with (first | (refine wpList_load_row_g rfl 32 _ rfl g1 rfl 32 (u8s A) (0, 0) _ l1.out Tryd.underlying32 rfl hi2.out ?_) | (refine wpList_load_row_g rfl 32 _ rfl g2 rfl 32 (u8s A) (0, 0) _ l2.out Tryd.underlying32 rfl hi2.out ?_))
    go_ret
    exact ⟨rfl, hB5.out⟩
end Go.Proofs.YtfaojjleapenaabDoor
namespace Go.Proofs.YtfaojjleapenaabDoor
open Go.RowKit Go.YtfaojjleapenaabDoor
set_option linter.unusedVariables false
/-- The two listed variables. -/
def GlO (Tg Tf : TypeId) (w : World) : Prop := w.heap[2]? = some (.cells (u32s constW) Tg (0, 0)) ∧ w.heap[0]? = some (.cells firstW.cells Tf (0, 0))
theorem GlO.mono {Tg Tf : TypeId} {w w' : World} (h : GlO Tg Tf w) (hb : Below w.heap.size w w') : GlO Tg Tf w' :=
  ⟨(hb.block _ (Array.getElem?_eq_some_iff.1 h.1).1).trans h.1, (hb.block _ (Array.getElem?_eq_some_iff.1 h.2).1).trans h.2⟩
theorem blocksF_ok (v : V8) (l : List Int) (hv : v.ok) : (blocksF v l).ok := by unfold blocksF; exact grindN_ok _ _ _ hv
/-- What the law's calls answer: Add of a, Add of b behind it, Add of both, and End of either. -/
structure OnP (Tg Tf : TypeId) (V : V8) (M : Nat) (la lb : List Int) (G1 G2 : V8) (M1 M2 : Nat) (R1 R2 D : List Int) : Prop where
  a1 : ∀ (av : Value) (w : World), RdB w av la → GlO Tg Tf w → Calls Tryd.prog 7 #[millV V (.slice none 0 0) M, av] w fun e w' => ∃ r', e = .returned (.tuple #[millV G1 r' M1, .int .i64 0]) ∧ OwnB w.heap.size 5 w' r' R1 ∧ Below w.heap.size w w'
  a2 : ∀ (rv bv : Value) (w : World), RdB w rv R1 → RdB w bv lb → GlO Tg Tf w → Calls Tryd.prog 7 #[millV G1 rv M1, bv] w fun e w' => ∃ r', e = .returned (.tuple #[millV G2 r' M2, .int .i64 0]) ∧ OwnB w.heap.size 5 w' r' R2 ∧ Below w.heap.size w w'
  a3 : ∀ (cv : Value) (w : World), RdB w cv (la ++ lb) → GlO Tg Tf w → Calls Tryd.prog 7 #[millV V (.slice none 0 0) M, cv] w fun e w' => ∃ r', e = .returned (.tuple #[millV G2 r' M2, .int .i64 0]) ∧ OwnB w.heap.size 5 w' r' R2 ∧ Below w.heap.size w w'
  en : ∀ (rv : Value) (w : World), RdB w rv R2 → GlO Tg Tf w → Calls Tryd.prog 8 #[millV G2 rv M2] w fun e w' => e = .returned (.tuple #[.agg (u8s D), .int .i64 0]) ∧ Below w.heap.size w w'
  sm : ∀ (r1 r2 : Value) (w : World), RdB w r1 R2 → RdB w r2 R2 → Calls Tryd.prog 9 #[millV G2 r1 M2, millV G2 r2 M2] w fun e w' => e = .returned (.bool true) ∧ Below w.heap.size w w'
  sb : ∀ (r1 r2 : Value) (w : World), RdB w r1 R1 → RdB w r2 R1 → Calls Tryd.prog 10 #[r1, r2] w fun e w' => e = .returned (.bool true) ∧ Below w.heap.size w w'
  al : ∀ (w : World), GlO Tg Tf w → Calls Tryd.prog 6 #[] w fun e w' => e = .returned (.bool true) ∧ Below w.heap.size w w'
  dl : D.length = 32
  m1 : (M1 : Int) = M + la.length
  r1 : R1 = la.drop (64 * (la.length / 64))
theorem on_pack {Tg Tf : TypeId} (V : V8) (M : Nat) (la lb : List Int) (hV : V.ok) (hM : M ≤ 192000) (h64 : M % 64 = 0) (ha : Bytes la) (hb : Bytes lb) (na : la.length ≤ 500) (nb : lb.length ≤ 500) :
    ∃ G1 G2 M1 M2 R1 R2 D, OnP Tg Tf V M la lb G1 G2 M1 M2 R1 R2 D := by
  have r1b : Bytes (restF la) := bytes_drop _ _ ha
  have l1 := restF_length la
  have l2 := restF_length (restF la ++ lb)
  have r2b : Bytes (restF (restF la ++ lb)) := bytes_drop _ _ (bytes_append _ _ r1b hb)
  have e1 : (restF la ++ lb).length % 64 = (M + la.length + lb.length) % 64 := by rw [List.length_append, l1]; omega
  refine ⟨blocksF V la, blocksF V (la ++ lb), M + la.length, M + la.length + lb.length, restF la, restF (restF la ++ lb), endF (blocksF V (la ++ lb)) (restF (restF la ++ lb)) (M + la.length + lb.length), ?_, ?_, ?_, ?_, ?_, ?_, ?_, writtenN_length _ 8, by omega, rfl⟩
  · intro av w h1 h2
    exact add_ok (Tg := Tg) V _ (.slice none 0 0) [] M av la w hV (.inl ⟨_, _, rfl, fun _ => rfl, rfl⟩) h1 (by intro i; simp [ith]) ha (by simp [h64]) (by omega) rfl h2.1
  · intro rv bv w h1 h2 h3
    exact add_ok (Tg := Tg) (blocksF V la) _ rv (restF la) (M + la.length) bv lb w (blocksF_ok _ _ hV) h1 h2 r1b hb (by rw [l1]; omega) (by omega) (blocksF_append V la lb).symm h3.1
  · intro cv w h1 h2
    have h := add_ok (Tg := Tg) V _ (.slice none 0 0) [] M cv (la ++ lb) w hV (.inl ⟨_, _, rfl, fun _ => rfl, rfl⟩) h1 (by intro i; simp [ith]) (bytes_append _ _ ha hb) (by simp [h64]) (by rw [List.length_append]; omega) rfl h2.1
    rw [List.nil_append, restF_append, show M + (la ++ lb).length = M + la.length + lb.length by rw [List.length_append]; omega] at h
    exact h
  · intro rv w h1 h2
    exact end_ok (Tg := Tg) _ rv _ _ w (blocksF_ok _ _ hV) h1 r2b (by rw [l2]; exact e1) (by omega) h2.1
  · intro r1 r2 w h1 h2
    exact same_yes _ r1 r2 _ _ w (by rw [l2]; omega) h1 h2
  · intro r1 r2 w h1 h2
    obtain ⟨a1, c1, rfl⟩ := h1.slice
    obtain ⟨a2, c2, rfl⟩ := h2.slice
    exact sameb_yes _ _ _ _ _ _ w rfl (by rw [l1]; omega) h1 h2
  · intro w h
    exact alive_any (Tg := Tg) (Tf := Tf) w _ rfl h.1 h.2
end Go.Proofs.YtfaojjleapenaabDoor
namespace Go.Proofs.YtfaojjleapenaabDoor
open Go.RowKit Go.YtfaojjleapenaabDoor
set_option linter.unusedVariables false
theorem below_aD (w : World) (o : Obj) : Below w.heap.size w (w.alloc o) := (Below.refl _ _).alloc (Nat.le_refl _) _
theorem rowD {w w' : World} {g : Nat} {o : Obj} (h : w.heap[g]? = some o) (hb : Below w.heap.size w w') : w'.heap[g]? = some o := (hb.block g (Array.getElem?_eq_some_iff.1 h).1).trans h
theorem quiet_cellD {P : Program} {C : World → Prop} {o : Oper} {a : Act} (ty : TypeId) (x : Operand) (ho : o.op = .load ty x) (g k : Nat) (hx : a.eval x = .pointer (some ⟨g, k, none⟩)) (v : Value)
    (hC : ∀ w, C w → w.cell? ⟨g, k, none⟩ = some v) (hu : ∀ w, (isAgg ty).run P w = .ok false w) : ∀ w, C w → o.quietAt P a C w v := by
  intro w hw
  have hc := hC w hw
  unfold Oper.quietAt execOp
  generalize a.eval = ev at *
  simp only [ho]
  simp [go_sem, hx, hu, hc]
theorem qa_eqlID {C : World → Prop} {a : Act} {o : Oper} (x y : Operand) (D : List Int) (hD : D.length = 32) (ho : o.op = .binOp .eql 32 x y 32)
    (hx : a.eval x = .agg (u8s D)) (hy : a.eval y = .agg (u8s D)) : ∀ w, C w → o.quietAt Tryd.prog a C w (.bool true) := by
  intro w _; refine qa_ok ?_
  have h0 : Tryd.prog.eqGuardType Tryd.prog.depth 32 = false := by kernel_rfl
  have hg := run_eqGuard_agg (P := Tryd.prog) w .eql 32 x y (u8s D) (u8s D) h0
  have he := run_equalArr (P := Tryd.prog) w 9998 32 5 32 Tryd.underlying32 Tryd.underlying5 (by kernel_rfl) D D hD hD
  unfold execOp
  generalize a.eval = ev at *
  simp only [ho]
  simp only [hx, hy] at *
  simp [go_sem, hx, hy, hg, he]
/-- A slice of one's own lies in no block of another type. -/
theorem own_ne {B : Nat} {E T : TypeId} {w : World} {v : Value} {l : List Int} (h : OwnB B E w v l) {g : Nat} {cs : Array Value} {fr : Nat × Nat} (hg : w.heap[g]? = some (.cells cs T fr)) (hT : T ≠ E) : some g ≠ v.ownBlock := by
  rcases h.2 with ⟨rfl, _⟩ | ⟨k, cap, cur, rfl, hb, hk, _⟩
  · intro e; cases e
  · intro e
    simp only [Value.ownBlock, Option.some.injEq] at e
    subst e
    rw [hg] at hk
    injection hk with hk
    injection hk with _ h2 _
    exact hT h2
theorem grown_row {w w' : World} {r : Option Nat} (h : w.grownBy w' r) {g : Nat} {o : Obj} (hg : w.heap[g]? = some o) (hne : some g ≠ r) : w'.heap[g]? = some o :=
  (h.block g (Array.getElem?_eq_some_iff.1 hg).1 hne).trans hg
theorem own_lit0 {w : World} {g B : Nat} (hg : w.heap[g]? = some (.cells #[] 5 (0, 0))) (hB : B ≤ g) : OwnB B 5 w (.slice (some ⟨g, 0, none⟩) 0 0) [] :=
  ⟨rfl, .inr ⟨g, 0, _, rfl, hB, hg, Nat.le_refl _, by decide, rfl, rfl⟩⟩
set_option maxHeartbeats 8000000 in
set_option maxRecDepth 100000 in
theorem on_far {Tg Tf : TypeId} (V : V8) (n : Int) (la lb : List Int) (av bv : Value) (w : World) (ha : RdB w av la) (hb : RdB w bv lb) (hG : GlO Tg Tf w) (hal : ∀ w, GlO Tg Tf w → Calls Tryd.prog 6 #[] w fun e w' => e = .returned (.bool true) ∧ Below w.heap.size w w')
    (h : n < 0 ∨ 3000 < n ∨ 500 < la.length ∨ 500 < lb.length) :
    Calls Tryd.prog 3 #[.agg V.cells, .int .i64 n, av, bv] w fun e w' => e = .returned (.bool true) ∧ Below w.heap.size w w' := by
  obtain ⟨a, c, rfl⟩ := ha.slice
  obtain ⟨b, d, rfl⟩ := hb.slice
  obtain ⟨w9, hw9⟩ : ∃ x, x = w.alloc (.cells V.cells 23) := ⟨_, rfl⟩
  have hS := below_aD w (.cells V.cells 23)
  rw [← hw9] at hS
  have hal9 := Lib.hid (hal w9 (hG.mono hS))
  replace hS := Lib.hid hS
  clear hal hG ha hb
  generalize la.length = A at *
  generalize lb.length = B at *
  by_cases h1 : n < 0
  · clear h
    go_enter Tryd.func3, Tryd.ntmps3
    go_upto_region 1 with fail
    rw [← hw9]
    clear hw9
    go_wp2_with (go_at_call 6; (with_reducible refine (hal9.out).mono ?_); rintro e w9 ⟨rfl, h9⟩; replace hS := Lib.hid (hS.out.trans (h9.mono hS.out.size)); clear h9)
    go_ret
    exact ⟨rfl, hS.out⟩
  by_cases h2 : 3000 < n
  · clear h
    go_enter Tryd.func3, Tryd.ntmps3
    go_upto_region 1 with fail
    rw [← hw9]
    clear hw9
    go_wp2_with (go_at_call 6; (with_reducible refine (hal9.out).mono ?_); rintro e w9 ⟨rfl, h9⟩; replace hS := Lib.hid (hS.out.trans (h9.mono hS.out.size)); clear h9)
    go_ret
    exact ⟨rfl, hS.out⟩
  have i1 : 0 ≤ n := by omega
  have i2 : n ≤ 3000 := by omega
  by_cases h3 : 500 < A
  · have i3 : (500 : Int) < (A : Int) := by omega
    clear h h1 h2 h3
    go_enter Tryd.func3, Tryd.ntmps3
    go_upto_region 1 with fail
    rw [← hw9]
    clear hw9
    go_wp2_with (go_at_call 6; (with_reducible refine (hal9.out).mono ?_); rintro e w9 ⟨rfl, h9⟩; replace hS := Lib.hid (hS.out.trans (h9.mono hS.out.size)); clear h9)
    go_ret
    exact ⟨rfl, hS.out⟩
  have i3 : (A : Int) ≤ 500 := by omega
  by_cases h4 : 500 < B
  · have i4 : (500 : Int) < (B : Int) := by omega
    clear h h1 h2 h3 h4
    go_enter Tryd.func3, Tryd.ntmps3
    go_upto_region 1 with fail
    rw [← hw9]
    clear hw9
    go_wp2_with (go_at_call 6; (with_reducible refine (hal9.out).mono ?_); rintro e w9 ⟨rfl, h9⟩; replace hS := Lib.hid (hS.out.trans (h9.mono hS.out.size)); clear h9)
    go_ret
    exact ⟨rfl, hS.out⟩
  omega
end Go.Proofs.YtfaojjleapenaabDoor
namespace Go
namespace YtfaojjleapenaabDoor
set_option linter.unusedVariables false
section
variable {P : Program} {ops : Array Oper} {md : Region.Mode} {Q : Exit → Act → World → Prop}
/-- What an operation that ends well leaves: a value and a world, of which R is true. -/
def fxUpon (P : Program) (R : Value → World → Prop) : Result Next → Prop
  | .ok (.value v) w' => R v w'
  | .ok .skip w' => R undef w'
  | .ok (.enter f args) w' => Calls P f args w' fun e w'' => ∃ v, e = .returned v ∧ R v w''
  | _ => False
def FxStep (P : Program) (ops : Array Oper) (o : Oper) (a : Act) (w : World) (R : Value → World → Prop) : Prop :=
  if Region.wanted o (yielded ops a.tmps) = true then fxUpon P R ((execOp a.eval o).run P w) else R undef w
theorem fx_wpOp {i : Nat} {o : Oper} {a : Act} {w : World} {R : Value → World → Prop} {K : Act → World → Prop} (hi : ops[i]? = some o) (h : FxStep P ops o a w R) (hK : ∀ v w', R v w' → K (a.put o.dst v) w') : wpOp P ops Q i K a w := by
  unfold wpOp
  simp only [hi]
  unfold FxStep at h
  split
  · rename_i hw
    rw [if_pos hw] at h
    refine .inl ?_
    unfold Oper.wp
    generalize (execOp a.eval o).run P w = r at h
    cases r with
    | halt x w' => cases x <;> exact h.elim
    | ok nx w' =>
      cases nx with
      | value v => exact hK v w' h
      | skip => exact hK undef w' h
      | defer d => exact h.elim
      | row r a => exact h.elim
      | enter f args =>
        refine Calls.mono h fun e w'' he => ?_
        obtain ⟨v, rfl, hR⟩ := he
        exact hK v w'' hR
      | _ => exact h.elim
  · rename_i hw
    rw [if_neg hw] at h
    exact hK undef w h
/-- The frame: those of the first k operations that L names have put their values. -/
def fxF (ops : Array Oper) (vs : Nat → Value) (L : Nat → Bool) (a0 : Act) : Nat → Act
  | 0 => a0
  | k + 1 => if L k = true then (fxF ops vs L a0 k).put ((ops[k]?).bind (·.dst)) (vs k) else fxF ops vs L a0 k
abbrev fxT : Nat → Bool := fun _ => true
theorem put_tmps_ne (a : Act) (x : Option Tmp) (v : Value) (t : Tmp) (h : x ≠ some t) : (a.put x v).tmps[t]? = a.tmps[t]? := by
  cases x with
  | none => rfl
  | some d =>
    have hne : d ≠ t := fun e => h (by rw [e])
    simp [Act.put, Array.getElem?_setIfInBounds_ne hne]
theorem put_tmps_congr (a b : Act) (x : Option Tmp) (v : Value) (t : Tmp) (h : a.tmps[t]? = b.tmps[t]?) : (a.put x v).tmps[t]? = (b.put x v).tmps[t]? := by
  cases x with
  | none => exact h
  | some d =>
    by_cases e : d = t
    · subst e
      simp only [Act.put, Array.getElem?_setIfInBounds, if_true]
      have h1 : d < a.tmps.size ↔ d < b.tmps.size := by
        constructor
        · intro hl
          rw [Array.getElem?_eq_getElem hl] at h
          exact (Array.getElem?_eq_some_iff.1 h.symm).1
        · intro hl
          rw [Array.getElem?_eq_getElem hl] at h
          exact (Array.getElem?_eq_some_iff.1 h).1
      by_cases hl : d < a.tmps.size
      · rw [if_pos hl, if_pos (h1.1 hl)]
      · rw [if_neg hl, if_neg (fun h2 => hl (h1.2 h2))]
    · simp only [Act.put, Array.getElem?_setIfInBounds_ne e]; exact h
theorem eval_tmps (a b : Act) (x : Operand) (h : ∀ t, x = .tmp t → a.tmps[t]? = b.tmps[t]?) : a.eval x = b.eval x := by
  cases x with
  | tmp t => simp only [Act.eval, Array.getD_eq_getD_getElem?, h t rfl]
  | _ => rfl
/-- A slot that the operation i looks at: it has what the lexical order gives. -/
theorem fxF_look (vs : Nat → Value) (L : Nat → Bool) (a0 : Act) (n i : Nat) (hi : i ≤ n) (t : Tmp) (hl : ∀ j, j < n → (ops[j]?).bind (·.dst) = some t → (j < i → L j = true) ∧ (i ≤ j → L j = false)) :
    (fxF ops vs L a0 n).tmps[t]? = (fxF ops vs fxT a0 i).tmps[t]? := by
  have h1 : ∀ k, k ≤ i → (fxF ops vs L a0 k).tmps[t]? = (fxF ops vs fxT a0 k).tmps[t]? := by
    intro k
    induction k with
    | zero => intro _; rfl
    | succ k ih =>
      intro hk
      have ih := ih (by omega)
      simp only [fxF, fxT, if_true]
      by_cases hd : (ops[k]?).bind (·.dst) = some t
      · rw [if_pos ((hl k (by omega) hd).1 (by omega))]
        exact put_tmps_congr _ _ _ _ _ ih
      · rw [put_tmps_ne _ _ _ _ hd]
        split
        · rw [put_tmps_ne _ _ _ _ hd]; exact ih
        · exact ih
  have h2 : ∀ d, i + d ≤ n → (fxF ops vs L a0 (i + d)).tmps[t]? = (fxF ops vs L a0 i).tmps[t]? := by
    intro d
    induction d with
    | zero => intro _; rfl
    | succ d ih =>
      intro hk
      rw [← ih (by omega)]
      show (fxF ops vs L a0 (i + d + 1)).tmps[t]? = _
      simp only [fxF]
      split
      · rename_i hL
        refine put_tmps_ne _ _ _ _ fun hd => ?_
        rw [(hl (i + d) (by omega) hd).2 (by omega)] at hL; cases hL
      · rfl
  have := h2 (n - i) (by omega)
  rw [show i + (n - i) = n by omega] at this
  rw [this, h1 i (Nat.le_refl _)]
theorem fxF_agree (vs vs' : Nat → Value) (L L' : Nat → Bool) (a0 : Act) (k : Nat) (h : ∀ j, j < k → L j = L' j ∧ (L j = true → vs j = vs' j)) : fxF ops vs L a0 k = fxF ops vs' L' a0 k := by
  induction k with
  | zero => rfl
  | succ k ih =>
    have h1 := h k (Nat.lt_succ_self _)
    simp only [fxF]
    rw [ih fun j hj => h j (by omega), ← h1.1]
    split
    · rename_i hL; rw [h1.2 hL]
    · rfl
theorem fxF_put (vs : Nat → Value) (L : Nat → Bool) (a0 : Act) (n i : Nat) (v : Value) (hin : i < n) (hL : L i = false) (hd : ∀ k, i < k → k < n → L k = true → ∀ d, (ops[i]?).bind (·.dst) = some d → (ops[k]?).bind (·.dst) ≠ some d) :
    (fxF ops vs L a0 n).put ((ops[i]?).bind (·.dst)) v = fxF ops (fun j => if j = i then v else vs j) (fun j => if j = i then true else L j) a0 n := by
  have key : ∀ d, i + 1 + d ≤ n → (fxF ops vs L a0 (i + 1 + d)).put ((ops[i]?).bind (·.dst)) v = fxF ops (fun j => if j = i then v else vs j) (fun j => if j = i then true else L j) a0 (i + 1 + d) := by
    intro d
    induction d with
    | zero =>
      intro _
      simp only [fxF, Nat.add_zero, if_true, hL]
      rw [if_neg (by decide)]
      congr 1
      exact fxF_agree _ _ _ _ _ _ fun j hj => by
        have hne : j ≠ i := by omega
        simp [hne]
    | succ d ih =>
      intro hk
      have ih := ih (by omega)
      have hne : i + 1 + d ≠ i := by omega
      show (fxF ops vs L a0 (i + 1 + d + 1)).put _ v = fxF ops _ _ a0 (i + 1 + d + 1)
      simp only [fxF, if_neg hne]
      by_cases hLk : L (i + 1 + d) = true
      · rw [if_pos hLk, if_pos hLk, ← ih]
        exact (Act.put_comm _ _ _ fun d' hd' hd2 => hd (i + 1 + d) (by omega) (by omega) hLk d' hd2 hd').trans rfl
      · rw [if_neg hLk, if_neg hLk]; exact ih
  have := key (n - (i + 1)) (by omega)
  rwa [show i + 1 + (n - (i + 1)) = n by omega] at this
/-- The waiting of the operations, and the frames, as they are to be; A names for each operation all that must come before it. -/
def fxB (ops : Array Oper) (n : Nat) (A : List (List Nat)) : Bool :=
  Region.noSelect ops && decide (n ≤ ops.size) &&
  ((List.range ops.size).all fun i => match ops[i]? with
    | none => true
    | some o => (o.after.all fun e => !Region.binds .any e || decide (e.on < i)) && ((A.getD i []).all fun j => decide (j < i) && o.after.any fun e => Region.binds .any e && (e.on == j || (A.getD e.on []).contains j))) &&
  ((List.range ops.size).all fun i => decide (i < n) || (List.range n).all fun j => (A.getD i []).contains j) &&
  ((List.range n).all fun i => match ops[i]? with
    | none => true
    | some o => (List.range n).all fun j => match (ops[j]?).bind (·.dst) with
      | none => true
      | some d => (!(o.looksAt ops).contains d || (decide (j < i) && (A.getD i []).contains j) || (decide (i < j) && (A.getD j []).contains i) || decide (j = i)) &&
        (!(o.dst == some d) || decide (j ≤ i) || (A.getD j []).contains i)) &&
  Region.seqB .any ops (ops.size - n) n ((Array.replicate n true) ++ (Array.replicate (ops.size - n) false))
structure FxOk (ops : Array Oper) (n : Nat) (A : List (List Nat)) : Prop where
  sel : Region.noSelect ops = true
  le : n ≤ ops.size
  aft : ∀ i o, ops[i]? = some o → ∀ e ∈ o.after, Region.binds .any e = true → e.on < i
  anc : ∀ i o, ops[i]? = some o → ∀ j ∈ A.getD i [], j < i ∧ ∃ e ∈ o.after, Region.binds .any e = true ∧ (e.on = j ∨ j ∈ A.getD e.on [])
  tail : ∀ i, n ≤ i → i < ops.size → ∀ j, j < n → j ∈ A.getD i []
  look : ∀ i o j d, i < n → j < n → ops[i]? = some o → (ops[j]?).bind (·.dst) = some d → d ∈ o.looksAt ops → (j < i ∧ j ∈ A.getD i []) ∨ (i < j ∧ i ∈ A.getD j []) ∨ j = i
  dst : ∀ i o j d, i < n → j < n → ops[i]? = some o → (ops[j]?).bind (·.dst) = some d → o.dst = some d → i < j → i ∈ A.getD j []
  seq : Region.seqB .any ops (ops.size - n) n ((Array.replicate n true) ++ (Array.replicate (ops.size - n) false)) = true
theorem fxB_ok {n : Nat} {A : List (List Nat)} (h : fxB ops n A = true) : FxOk ops n A := by
  unfold fxB at h
  simp only [Bool.and_eq_true, decide_eq_true_eq] at h
  obtain ⟨⟨⟨⟨⟨h1, h2⟩, h3⟩, h4⟩, h5⟩, h6⟩ := h
  refine ⟨h1, h2, fun i o ho e he hb => ?_, fun i o ho j hj => ?_, fun i hi hs j hj => ?_, fun i o j d hi hj ho hd hl => ?_, fun i o j d hi hj ho hd hl hij => ?_, h6⟩
  · have hi := (Array.getElem?_eq_some_iff.1 ho).1
    have k := List.all_eq_true.1 h3 i (List.mem_range.2 hi)
    simp only [ho, Bool.and_eq_true] at k
    have k1 := Array.all_eq_true'.1 k.1 e he
    simpa [hb] using k1
  · have hi := (Array.getElem?_eq_some_iff.1 ho).1
    have k := List.all_eq_true.1 h3 i (List.mem_range.2 hi)
    simp only [ho, Bool.and_eq_true] at k
    have k1 := List.all_eq_true.1 k.2 j hj
    simp only [Bool.and_eq_true, decide_eq_true_eq] at k1
    refine ⟨k1.1, ?_⟩
    obtain ⟨e, he, hb⟩ := Array.any_eq_true'.1 k1.2
    simp only [Bool.and_eq_true, Bool.or_eq_true, beq_iff_eq, List.contains_iff_mem] at hb
    exact ⟨e, he, hb.1, hb.2⟩
  · have k := List.all_eq_true.1 h4 i (List.mem_range.2 hs)
    rw [Bool.or_eq_true, decide_eq_true_eq] at k
    rcases k with k | k
    · omega
    · have := List.all_eq_true.1 k j (List.mem_range.2 hj)
      simpa using this
  · have k := List.all_eq_true.1 h5 i (List.mem_range.2 hi)
    simp only [ho] at k
    have k1 := List.all_eq_true.1 k j (List.mem_range.2 hj)
    simp only [hd, Bool.and_eq_true] at k1
    have k2 := k1.1
    simp only [Bool.or_eq_true, Bool.and_eq_true, decide_eq_true_eq, List.contains_iff_mem, Bool.not_eq_true'] at k2
    rcases k2 with ((k2 | k2) | k2) | k2
    · have : (o.looksAt ops).contains d = true := by simpa using hl
      rw [this] at k2; cases k2
    · exact .inl k2
    · exact .inr (.inl k2)
    · exact .inr (.inr k2)
  · have k := List.all_eq_true.1 h5 i (List.mem_range.2 hi)
    simp only [ho] at k
    have k1 := List.all_eq_true.1 k j (List.mem_range.2 hj)
    simp only [hd, Bool.and_eq_true] at k1
    have k2 := k1.2
    simp only [Bool.or_eq_true, decide_eq_true_eq, List.contains_iff_mem, Bool.not_eq_true'] at k2
    rcases k2 with (k2 | k2) | k2
    · rw [hl] at k2; simp at k2
    · omega
    · exact k2
theorem looks_tmp {o : Oper} {t : Tmp} (h : .tmp t ∈ o.op.operands) : t ∈ o.looksAt ops := by
  unfold Oper.looksAt
  rw [List.mem_append]
  refine .inl ?_
  rw [List.mem_filterMap]
  exact ⟨.tmp t, by simpa using h, rfl⟩
theorem looks_guard {o : Oper} {g : Nat} {b : Bool} (h : o.guard = some (g, b)) {t : Tmp} (ht : (ops[g]?).bind (·.dst) = some t) : t ∈ o.looksAt ops := by
  unfold Oper.looksAt
  rw [List.mem_append]
  refine .inr ?_
  simp [h, ht]
theorem fx_same {o : Oper} (hs : ∀ cs b, o.op ≠ .select cs b) (a b : Act) (h : ∀ t, t ∈ o.looksAt ops → a.tmps[t]? = b.tmps[t]?) (w : World) (R : Value → World → Prop) : FxStep P ops o a w R = FxStep P ops o b w R := by
  have h1 : execOp a.eval o = execOp b.eval o := execOp_congr o hs fun x hx => eval_tmps a b x fun t ht => h t (looks_tmp (by rw [← ht]; exact hx))
  have h2 : Region.wanted o (yielded ops a.tmps) = Region.wanted o (yielded ops b.tmps) := by
    unfold Region.wanted
    cases hg : o.guard with
    | none => rfl
    | some gw =>
      obtain ⟨g, wnt⟩ := gw
      simp only
      have h3 : yielded ops a.tmps g = yielded ops b.tmps g := by
        unfold yielded
        cases hd : (ops[g]?).bind (·.dst) with
        | none => rfl
        | some t => simp only [Option.bind_some, h t (looks_guard hg hd)]
      rw [h3]
  unfold FxStep
  rw [h1, h2]
theorem anc_listed {n : Nat} {A : List (List Nat)} (hB : FxOk ops n A) {listed : Array Bool} (cl : Closed .any ops listed) :
    ∀ i o, ops[i]? = some o → (∀ e ∈ o.after, Region.binds .any e = true → listed.getD e.on false = true) → ∀ j ∈ A.getD i [], listed.getD j false = true := by
  intro i
  induction i using Nat.strongRecOn with
  | _ i ih =>
    intro o ho hall j hj
    obtain ⟨_, e, he, hb, h | h⟩ := hB.anc i o ho j hj
    · rw [← h]; exact hall e he hb
    · have hon := hB.aft i o ho e he hb
      have hlt : e.on < ops.size := Nat.lt_trans hon (Array.getElem?_eq_some_iff.1 ho).1
      exact ih e.on hon _ (Array.getElem?_eq_getElem hlt) (fun e2 he2 hb2 => cl.2 _ _ (Array.getElem?_eq_getElem hlt) (hall e he hb) e2 he2 hb2) j h
/-- How many of the first n are not listed. -/
def fxLeft (listed : Array Bool) (n : Nat) : Nat := ((List.range n).filter fun j => !listed.getD j false).length
theorem fxLeft_set {listed : Array Bool} {n i : Nat} (hi : i < n) (hs : i < listed.size) (h : listed.getD i false = false) : fxLeft (listed.setIfInBounds i true) n + 1 = fxLeft listed n := by
  have gi : (listed.setIfInBounds i true).getD i false = true := by simp [hs]
  have go : ∀ j, j ≠ i → (listed.setIfInBounds i true).getD j false = listed.getD j false := fun j hj => getD_set_ne false (fun e => hj e.symm)
  have key : ∀ m, fxLeft (listed.setIfInBounds i true) m + (if i < m then 1 else 0) = fxLeft listed m := by
    intro m
    induction m with
    | zero => rfl
    | succ m ih =>
      unfold fxLeft at ih ⊢
      rw [List.range_succ, List.filter_append, List.filter_append, List.length_append, List.length_append, ← ih]
      by_cases e : m = i
      · subst e
        rw [if_neg (Nat.lt_irrefl m), if_pos (Nat.lt_succ_self m)]
        simp only [List.filter_cons, List.filter_nil, gi, h, Bool.not_true, Bool.not_false, if_true, Bool.false_eq_true, if_false, List.length_nil, List.length_cons]
      · rw [show (if i < m + 1 then 1 else 0) = (if i < m then 1 else 0) by
          by_cases h1 : i < m
          · rw [if_pos h1, if_pos (by omega)]
          · rw [if_neg h1, if_neg (by omega)]]
        simp only [List.filter_cons, List.filter_nil, go m e]
        omega
  have := key n
  rw [if_pos hi] at this
  exact this
theorem fxLeft_zero {listed : Array Bool} {n : Nat} (h : fxLeft listed n = 0) : ∀ j, j < n → listed.getD j false = true := fun j hj => by
  have h1 := List.eq_nil_of_length_eq_zero h
  rw [List.filter_eq_nil_iff] at h1
  simpa using h1 j (List.mem_range.2 hj)
theorem fxLeft_pos {listed : Array Bool} {n : Nat} (h : fxLeft listed n ≠ 0) : ∃ j, j < n ∧ listed.getD j false = false := by
  refine Classical.byContradiction fun hn => h ?_
  unfold fxLeft
  rw [List.length_eq_zero_iff, List.filter_eq_nil_iff]
  intro j hj
  have hj := List.mem_range.1 hj
  cases hb : listed.getD j false with
  | true => simp
  | false => exact absurd ⟨j, hj, hb⟩ hn
/-- The operation i may come behind j, if j does not have to come behind i. -/
def fxAfter (A : List (List Nat)) (i j : Nat) : Bool := decide (i ≠ j) && !(A.getD j []).contains i
/-- The operation i may come before j. -/
def fxBefore (A : List (List Nat)) (i j : Nat) : Bool := decide (i ≠ j) && !(A.getD i []).contains j
section
variable {n : Nat} {A : List (List Nat)} {Ψ : Nat → World → Prop} {Φ : Nat → Value → World → Prop} {G : Nat → World → World → Prop} {Inv : World → Prop} {a0 : Act}
end
/-- The last of the first i operations that puts its value into the slot t. -/
def fxLast (ops : Array Oper) (t : Tmp) : Nat → Option Nat
  | 0 => none
  | k + 1 => if ((ops[k]?).bind (·.dst) == some t) = true then some k else fxLast ops t k
theorem fx_old {vs : Nat → Value} {a0 : Act} {t : Tmp} : ∀ i, fxLast ops t i = none → (fxF ops vs fxT a0 i).eval (.tmp t) = a0.eval (.tmp t)
  | 0, _ => rfl
  | k + 1, h => by
    unfold fxLast at h
    split at h
    · cases h
    · rename_i hd
      simp only [fxF, fxT, if_true]
      rw [eval_tmps _ (fxF ops vs fxT a0 k) (.tmp t) (fun t' e => by
        injection e with e
        subst e
        exact put_tmps_ne _ _ _ _ (by simpa using hd))]
      exact fx_old k h
theorem fxF_size {vs : Nat → Value} {a0 : Act} (k : Nat) : (fxF ops vs fxT a0 k).tmps.size = a0.tmps.size := by
  induction k with
  | zero => rfl
  | succ k ih =>
    simp only [fxF, fxT, if_true]
    cases (ops[k]?).bind (·.dst) with
    | none => exact ih
    | some d => simp [Act.put, ih]
theorem fx_new {vs : Nat → Value} {a0 : Act} {t : Tmp} {j : Nat} (ht : t < a0.tmps.size) : ∀ i, fxLast ops t i = some j → (fxF ops vs fxT a0 i).eval (.tmp t) = vs j
  | 0, h => by cases h
  | k + 1, h => by
    unfold fxLast at h
    simp only [fxF, fxT, if_true]
    split at h
    · rename_i hd
      injection h with h
      subst h
      rw [show (ops[k]?).bind (·.dst) = some t by simpa using hd]
      have hs : t < (fxF ops vs fxT a0 k).tmps.size := by rw [fxF_size]; exact ht
      simp [Act.eval, Act.put, Array.getD_eq_getD_getElem?, hs]
    · rename_i hd
      rw [eval_tmps _ (fxF ops vs fxT a0 k) (.tmp t) (fun t' e => by
        injection e with e
        subst e
        exact put_tmps_ne _ _ _ _ (by simpa using hd))]
      exact fx_new ht k h
section
variable {o : Oper} {a : Act} {w : World} {R : Value → World → Prop}
theorem fx_val {v : Value} {w' : World} (hw : Region.wanted o (yielded ops a.tmps) = true) (h : (execOp a.eval o).run P w = .ok (.value v) w') (hR : R v w') : FxStep P ops o a w R := by
  unfold FxStep
  rw [if_pos hw, h]
  exact hR
theorem fx_move (x : Operand) (hg : o.guard = none) (ho : o.op = .move x) (hR : R (a.eval x) w) : FxStep P ops o a w R :=
  fx_val (v := a.eval x) (w' := w) (by simp [Region.wanted, hg]) (by unfold execOp; simp [ho, go_sem]) hR
theorem fx_call {T : Array TypeId} {f : FuncId} {fn : Func} {c : Code} {xs : Array Operand} (us : Array Value) (hw : Region.wanted o (yielded ops a.tmps) = true) (ho : o.op = .call { callee := .value (.func f), args := xs, argTypes := T })
    (hf : P.funcs[f]? = some fn) (hname : (fn.name == "runtime.NumGoroutine") = false) (hb : fn.body = some c) (hx : xs.map a.eval = us) (h3 : a.eval (.func f) = .func (.func f) #[] #[])
    (hc : Calls P f us w fun e w'' => ∃ v, e = .returned v ∧ R v w'') : FxStep P ops o a w R := by
  have hn : fn.name ≠ "runtime.NumGoroutine" := by simpa using hname
  unfold FxStep
  rw [if_pos hw]
  unfold execOp
  generalize a.eval = ev at *
  have hr : (callFunc f us).run P w = .ok (.enter f us) w := by simp [callFunc, hf, hn, hb]
  simp only [ho]
  simp [go_sem, hx, h3]
  rw [hr]
  exact hc
end
end
end YtfaojjleapenaabDoor
end Go
namespace Go
namespace YtfaojjleapenaabDoor
set_option linter.unusedVariables false
section
variable {P : Program} {ops : Array Oper} {md : Region.Mode} {Q : Exit → Act → World → Prop}
/-- Behind the operation i, another one than i that uses j may come, or the end uses it. -/
def fxNeed (n : Nat) (A U : List (List Nat)) (Uf : List Nat) (i j : Nat) : Bool := Uf.contains j || (List.range n).any fun k => decide (k ≠ i) && !(A.getD i []).contains k && (U.getD k []).contains j
def fxLive (n : Nat) (U : List (List Nat)) (Uf : List Nat) (listed : Array Bool) (j : Nat) : Prop := j ∈ Uf ∨ ∃ k, k < n ∧ listed.getD k false = false ∧ j ∈ U.getD k []
def fxUses (n : Nat) (A U : List (List Nat)) : Bool := (List.range n).all fun k => (U.getD k []).all fun j => (A.getD k []).contains j
theorem fxUses_mem {n : Nat} {A U : List (List Nat)} (h : fxUses n A U = true) {i j : Nat} (hi : i < n) (hj : j ∈ U.getD i []) : j ∈ A.getD i [] := by
  have h1 := List.all_eq_true.1 (List.all_eq_true.1 h i (List.mem_range.2 hi)) j hj
  simpa using h1
section
variable {n : Nat} {A : List (List Nat)} {Ψ : Nat → World → Prop} {Φ : Nat → (Nat → Value) → World → Prop} {G : Nat → World → World → Prop} {Inv : World → Prop} {a0 : Act}
theorem fx_anyU {U : List (List Nat)} {Uf : List Nat} (hB : FxOk ops n A) (hU : fxUses n A U = true) (hI : ∀ i w w', i < n → Inv w → G i w w' → Inv w')
    (hC : ∀ j vs vs' w, j < n → (∀ k, k = j ∨ k ∈ A.getD j [] → vs k = vs' k) → Φ j vs w → Φ j vs' w)
    (hG : ∀ i j vs w w', i < n → j < n → fxAfter A i j = true → fxNeed n A U Uf i j = true → Inv w → Φ j vs w → G i w w' → Φ j vs w')
    (hP : ∀ i j w w', i < n → j < n → fxBefore A i j = true → Inv w → Ψ j w → G i w w' → Ψ j w')
    (hstep : ∀ i o vs w, i < n → ops[i]? = some o → Inv w → Ψ i w → (∀ j, j ∈ U.getD i [] → Φ j vs w) → FxStep P ops o (fxF ops vs fxT a0 i) w fun v w' => Φ i (fun j => if j = i then v else vs j) w' ∧ G i w w')
    (hdone : ∀ vs w, Inv w → (∀ j, j < n → j ∈ Uf → Φ j vs w) → wpList P ops Q (ops.toList.drop n) (fxF ops vs fxT a0 n) w) :
    ∀ (d : Nat) (listed : Array Bool) (vs : Nat → Value) (w : World), Closed .any ops listed → (∀ j, n ≤ j → j < ops.size → listed.getD j false = false) → fxLeft listed n = d → Inv w → (∀ j, j < n → listed.getD j false = false → Ψ j w) →
      (∀ j, j < n → listed.getD j false = true → fxLive n U Uf listed j → Φ j vs w) → wpAny P .any ops Q (d + (ops.size - n)) listed (fxF ops vs (fun j => listed.getD j false) a0 n) w := by
  intro d
  induction d with
  | zero =>
    intro listed vs w cl hout hleft hinv hpre hf
    have hall := fxLeft_zero hleft
    have hL : listed = (Array.replicate n true) ++ (Array.replicate (ops.size - n) false) := by
      refine Array.ext (by rw [cl.1]; have := hB.le; simp; omega) fun j hj1 hj2 => ?_
      have e : listed.getD j false = listed[j] := by simp [Array.getD, hj1]
      rw [← e]
      by_cases hjn : j < n
      · rw [hall j hjn, Array.getElem_append_left (by simpa using hjn)]; simp
      · rw [hout j (by omega) (by rw [← cl.1]; exact hj1), Array.getElem_append_right (by simpa using hjn)]; simp
    have hfr : fxF ops vs (fun j => listed.getD j false) a0 n = fxF ops vs fxT a0 n := fxF_agree _ _ _ _ _ _ fun j hj => ⟨hall j hj, fun _ => rfl⟩
    rw [hfr, Nat.zero_add]
    have hlen : (ops.toList.drop n).length = ops.size - n := by simp
    have h := wpAny_of_seq (P := P) (ops := ops) (md := .any) (Q' := Q) (ops.toList.drop n) n listed (fxF ops vs fxT a0 n) w (fun j => by simp [List.getElem?_drop]) (by rw [hlen, hL]; exact hB.seq) (hdone vs w hinv fun j hj hu => hf j hj (hall j hj) (.inl hu))
    rwa [hlen] at h
  | succ d ih =>
    intro listed vs w cl hout hleft hinv hpre hf
    rw [show d + 1 + (ops.size - n) = (d + (ops.size - n)) + 1 by omega]
    refine ⟨fun hnil => ?_, fun i hi => ?_⟩
    · exfalso
      obtain ⟨j, hj, hju⟩ := fxLeft_pos (listed := listed) (n := n) (by omega)
      have hex : ∃ j, j ∈ Region.ready .any ops listed := by
        clear hnil
        induction j using Nat.strongRecOn with
        | _ j jh =>
          have hlt : j < ops.size := Nat.lt_of_lt_of_le hj hB.le
          by_cases ha : ∀ e ∈ ops[j].after, Region.binds .any e = true → listed.getD e.on false = true
          · refine ⟨j, mem_ready.2 ⟨?_, _, Array.getElem?_eq_getElem hlt, ha⟩⟩
            have hjs : j < listed.size := by rw [cl.1]; exact hlt
            simp [Array.getD, hjs] at hju ⊢
            exact hju
          · obtain ⟨e, he⟩ := Classical.not_forall.1 ha
            obtain ⟨he1, he2⟩ := Classical.not_imp.1 he
            obtain ⟨hb, hu⟩ := Classical.not_imp.1 he2
            have hon := hB.aft j _ (Array.getElem?_eq_getElem hlt) e he1 hb
            exact jh e.on hon (by omega) (by simpa using hu)
      obtain ⟨j', hj'⟩ := hex
      rw [hnil] at hj'; cases hj'
    · obtain ⟨hiu, o, ho, hall⟩ := mem_ready.1 hi
      have his : i < ops.size := (Array.getElem?_eq_some_iff.1 ho).1
      have hils : i < listed.size := by rw [cl.1]; exact his
      have hif : listed.getD i false = false := by simp [Array.getD, hils] at hiu ⊢; exact hiu
      have hanc := anc_listed hB cl i o ho hall
      rcases Nat.lt_or_ge i n with hin | hin
      · have hlk : ∀ t, t ∈ o.looksAt ops → (fxF ops vs (fun j => listed.getD j false) a0 n).tmps[t]? = (fxF ops vs fxT a0 i).tmps[t]? := fun t ht =>
          fxF_look vs _ a0 n i (Nat.le_of_lt hin) t fun j hj hd => by
            rcases hB.look i o j t hin hj ho hd ht with ⟨h1, h2⟩ | ⟨h1, h2⟩ | h1
            · exact ⟨fun _ => hanc j h2, fun h => by omega⟩
            · refine ⟨fun h => by omega, fun _ => ?_⟩
              cases hb : listed.getD j false with
              | false => rfl
              | true =>
                have hjs : j < ops.size := Nat.lt_of_lt_of_le hj hB.le
                have := anc_listed hB cl j _ (Array.getElem?_eq_getElem hjs) (fun e he hb2 => cl.2 j _ (Array.getElem?_eq_getElem hjs) hb e he hb2) i h2
                rw [hif] at this; cases this
            · subst h1; exact ⟨fun h => by omega, fun _ => hif⟩
        have hsel : ∀ cs b, o.op ≠ .select cs b := fun cs b => Region.noSelect_spec hB.sel i o cs b ho
        have hst := hstep i o vs w hin ho hinv (hpre i hin hif) fun j hj => (have hja := fxUses_mem hU hin hj; hf j (by have := (hB.anc i o ho j hja).1; omega) (hanc j hja) (.inr ⟨i, hin, hif, hj⟩))
        rw [← fx_same hsel _ _ hlk] at hst
        refine fx_wpOp ho hst fun v w' ⟨hΦ, hg⟩ => ?_
        have hdd : o.dst = (ops[i]?).bind (·.dst) := by rw [ho]; rfl
        have hfp := fxF_put (ops := ops) vs (fun j => listed.getD j false) a0 n i v hin hif fun k hk hkn hLk d' hd' hd2 => by
          have hks : k < ops.size := Nat.lt_of_lt_of_le hkn hB.le
          rw [ho] at hd'
          have h2 := hB.dst i o k d' hin hkn ho hd2 hd' hk
          have := anc_listed hB cl k _ (Array.getElem?_eq_getElem hks) (fun e he hb2 => cl.2 k _ (Array.getElem?_eq_getElem hks) hLk e he hb2) i h2
          rw [hif] at this; cases this
        rw [hdd, hfp]
        have hfr : fxF ops (fun j => if j = i then v else vs j) (fun j => if j = i then true else listed.getD j false) a0 n = fxF ops (fun j => if j = i then v else vs j) (fun j => (listed.setIfInBounds i true).getD j false) a0 n := fxF_agree _ _ _ _ _ _ fun j hj => by
          refine ⟨?_, fun _ => rfl⟩
          by_cases e : j = i
          · subst e; simp [hils]
          · rw [if_neg e, getD_set_ne false (fun h => e h.symm)]
        rw [hfr]
        refine ih _ _ _ (cl.set hi) (fun j h1 h2 => ?_) ?_ (hI i w w' hin hinv hg) (fun j hj hjl => ?_) fun j hj hjl hlv => ?_
        · rw [getD_set_ne false (by omega)]; exact hout j h1 h2
        · have := fxLeft_set hin hils hif; omega
        · by_cases e : j = i
          · subst e; simp [hils] at hjl
          · rw [getD_set_ne false (fun h => e h.symm)] at hjl
            refine hP i j w w' hin hj ?_ hinv (hpre j hj hjl) hg
            unfold fxBefore
            have hni : j ∉ A.getD i [] := fun hm => by rw [hanc j hm] at hjl; cases hjl
            rw [Bool.and_eq_true, decide_eq_true_eq]
            exact ⟨fun h => e h.symm, by simpa using hni⟩
        · by_cases e : j = i
          · subst e; exact hΦ
          · rw [getD_set_ne false (fun h => e h.symm)] at hjl
            have hlv2 : fxLive n U Uf listed j ∧ fxNeed n A U Uf i j = true := by
              rcases hlv with h | ⟨k, hk, hkl, hku⟩
              · exact ⟨.inl h, by unfold fxNeed; simp [h]⟩
              · have hki : k ≠ i := fun h => by subst h; simp [hils] at hkl
                rw [getD_set_ne false (fun h => hki h.symm)] at hkl
                refine ⟨.inr ⟨k, hk, hkl, hku⟩, ?_⟩
                unfold fxNeed
                rw [Bool.or_eq_true, List.any_eq_true]
                refine .inr ⟨k, List.mem_range.2 hk, ?_⟩
                have hnk : k ∉ A.getD i [] := fun hm => by rw [hanc k hm] at hkl; cases hkl
                rw [Bool.and_eq_true, Bool.and_eq_true, decide_eq_true_eq]
                exact ⟨⟨hki, by simpa using hnk⟩, by simpa using hku⟩
            have hjs : j < ops.size := Nat.lt_of_lt_of_le hj hB.le
            have hni : i ∉ A.getD j [] := fun hm => by
              have := anc_listed hB cl j _ (Array.getElem?_eq_getElem hjs) (fun e he hb2 => cl.2 j _ (Array.getElem?_eq_getElem hjs) hjl e he hb2) i hm
              rw [hif] at this; cases this
            refine hC j vs _ w' hj (fun k hk => ?_) (hG i j vs w w' hin hj ?_ hlv2.2 hinv (hf j hj hjl hlv2.1) hg)
            · have hki : k ≠ i := by
                rcases hk with rfl | hk
                · exact e
                · exact fun h => hni (h ▸ hk)
              simp only [if_neg hki]
            · unfold fxAfter
              rw [Bool.and_eq_true, decide_eq_true_eq]
              exact ⟨fun h => e h.symm, by simpa using hni⟩
      · exfalso
        obtain ⟨j, hj, hju⟩ := fxLeft_pos (listed := listed) (n := n) (by omega)
        have := hanc j (hB.tail i hin his j hj)
        rw [hju] at this; cases this
/-- **A region that draws its order**, its facts used up: one fact for each of its first n operations, kept by all that may come behind it and ahead of one that uses it; what comes behind them is walked as a list. -/
theorem wp_region_fxu {id : Nat} {w : World} {l : List Oper} (n : Nat) (A U : List (List Nat)) (Uf : List Nat) (hm : P.follows .mixedOrders = true) (hB : fxB l.toArray n A = true) (hU : fxUses n A U = true)
    (Φ : Nat → (Nat → Value) → World → Prop) (G : Nat → World → World → Prop) (Inv : World → Prop) (Ψ : Nat → World → Prop) (h0 : Inv { w with drawn := w.drawn + 1 }) (hp0 : ∀ j, j < n → Ψ j { w with drawn := w.drawn + 1 })
    (hI : ∀ i w w', i < n → Inv w → G i w w' → Inv w')
    (hC : ∀ j vs vs' w, j < n → (∀ k, k = j ∨ k ∈ A.getD j [] → vs k = vs' k) → Φ j vs w → Φ j vs' w)
    (hG : ∀ i j vs w w', i < n → j < n → fxAfter A i j = true → fxNeed n A U Uf i j = true → Inv w → Φ j vs w → G i w w' → Φ j vs w')
    (hP : ∀ i j w w', i < n → j < n → fxBefore A i j = true → Inv w → Ψ j w → G i w w' → Ψ j w')
    (hstep : ∀ i o vs w, i < n → l.toArray[i]? = some o → Inv w → Ψ i w → (∀ j, j ∈ U.getD i [] → Φ j vs w) → FxStep P l.toArray o (fxF l.toArray vs fxT a0 i) w fun v w' => Φ i (fun j => if j = i then v else vs j) w' ∧ G i w w')
    (hdone : ∀ vs w, Inv w → (∀ j, j < n → j ∈ Uf → Φ j vs w) → wpList P l.toArray Q (l.drop n) (fxF l.toArray vs fxT a0 n) w) : (Code.region id l.toArray true).wp P Q a0 w := by
  have hk := fxB_ok hB
  have cl0 : Closed .any l.toArray (Array.replicate l.toArray.size false) := ⟨by simp, fun j oj _ hl => (by rw [getD_replicate_false] at hl; cases hl)⟩
  have hl0 : fxLeft (Array.replicate l.toArray.size false) n = n := by
    unfold fxLeft
    rw [List.filter_eq_self.2 (fun j _ => by rw [getD_replicate_false]; rfl), List.length_range]
  have h := fx_anyU (U := U) (Uf := Uf) (a0 := a0) hk hU hI hC hG hP hstep (fun vs w h1 h2 => by simpa using hdone vs w h1 h2) n (Array.replicate l.toArray.size false) (fun _ => undef) { w with drawn := w.drawn + 1 } cl0 (fun j _ _ => getD_replicate_false _ _) hl0 h0 (fun j hj _ => hp0 j hj) (fun j _ hl _ => by rw [getD_replicate_false] at hl; cases hl)
  have hfr : fxF l.toArray (fun _ => undef) (fun j => (Array.replicate l.toArray.size false).getD j false) a0 n = a0 := by
    have : ∀ k, fxF l.toArray (fun _ => undef) (fun j => (Array.replicate l.toArray.size false).getD j false) a0 k = a0 := by
      intro k
      induction k with
      | zero => rfl
      | succ k ih =>
        show (if (Array.replicate l.toArray.size false).getD k false = true then _ else _) = a0
        rw [getD_replicate_false, if_neg (by decide)]; exact ih
    exact this n
  rw [hfr, show n + (l.toArray.size - n) = l.toArray.size by have := hk.le; omega] at h
  exact wp_region_any hm h
end
theorem fxu_append2 {o : Oper} {a : Act} {w w' : World} {R : Value → World → Prop} {v v' u : Value} (s x : Operand) (t : TypeId) (hg : o.guard = none) (ho : o.op = .call { callee := .builtin .append, args := #[s, x], argTypes := #[t, t] })
    (hs : a.eval s = v) (hx : a.eval x = u) (hrun : (Builtin.append_ #[t, t] o.type #[v, u]).run P w = .ok v' w') (hR : R v' w') : FxStep P ops o a w R :=
  fx_val (v := v') (w' := w') (by simp [Region.wanted, hg]) (by
    unfold execOp
    simp only [ho, resolve, invoke, builtin, Sem.run_bind, Sem.run_pure, Result.andThen_ok, List.map_toArray, List.map_cons, List.map_nil, hs, hx, hrun]) hR
theorem fxu_store {o : Oper} {a : Act} {w : World} {R : Value → World → Prop} (ty : TypeId) (x y : Operand) (hg : o.guard = none) (ho : o.op = .store ty x y)
    (g : Nat) (cells : Array Value) (hx : a.eval x = .pointer (some ⟨g, 0, none⟩)) (hy : a.eval y = .agg cells) (t : TypeId) (old : Array Value) (hr : w.heap[g]? = some (.cells old t (0, 0))) (hi : (P.info? ty).map (·.size) = some cells.size)
    (hold : old.size = cells.size) (h1 : cells.all (·.oneCell') = true) (hR : R undef (w.setRow g cells)) : FxStep P ops o a w R := by
  unfold FxStep
  rw [if_pos (by simp [Region.wanted, hg])]
  unfold execOp
  simp only [ho, hx, hy, Instr.storeAt, Instr.sureAddr, Sem.run_bind, Sem.run_pure, Result.andThen_ok, run_storeVar_row w g t ty old cells hr hi hold h1]
  exact hR
end
end YtfaojjleapenaabDoor
end Go
namespace Go.Proofs.YtfaojjleapenaabDoor
open Go.RowKit Go.YtfaojjleapenaabDoor
set_option linter.unusedVariables false
theorem ownB_setRowT {B : Nat} {E T : TypeId} {w : World} {v : Value} {l : List Int} (h : OwnB B E w v l) {g : Nat} {cs : Array Value} {fr : Nat × Nat} (hg : w.heap[g]? = some (.cells cs T fr)) (hT : T ≠ E) (cs' : Array Value) : OwnB B E (w.setRow g cs') v l := by
  refine ⟨h.1, ?_⟩
  rcases h.2 with hn | ⟨k, cap, cur, rfl, hbg, hk, rest⟩
  · exact .inl hn
  · refine .inr ⟨k, cap, cur, rfl, hbg, (setRow_other w g k cs' (fun e => ?_)).trans hk, rest⟩
    subst e
    rw [hg] at hk
    injection hk with hk
    injection hk with _ h2 _
    exact hT h2
def onA : List (List Nat) := [[], [], [], [1, 2], [], [1, 2, 3, 4], [0, 1, 2, 3, 4, 5], [0, 1, 2, 3, 4, 5, 6], [0, 1, 2, 3, 4, 5, 6, 7], [0, 1, 2, 3, 4, 5, 6, 7], [], [0, 1, 2, 3, 4, 5, 6, 7, 8, 10], [0, 1, 2, 3, 4, 5, 6, 7, 8, 9, 10, 11]]
def onU : List (List Nat) := [[], [], [], [1, 2], [], [3, 4], [0, 5], [6], [7], [7], [], [8, 10]]
def onF : List Nat := [9, 11]
def onΦ (B : Nat) (V G2 : V8) (M M2 : Nat) (la lb R2 : List Int) (av bv : Value) : Nat → (Nat → Value) → World → Prop
  | 0, vs, _ => vs 0 = millV V (.slice none 0 0) M
  | 1, vs, w => OwnB B 5 w (vs 1) []
  | 2, vs, _ => vs 2 = av
  | 3, vs, w => OwnB B 5 w (vs 3) la
  | 4, vs, _ => vs 4 = bv
  | 5, vs, w => OwnB B 5 w (vs 5) (la ++ lb)
  | 6, vs, w => ∃ r, vs 6 = .tuple #[millV G2 r M2, .int .i64 0] ∧ OwnB B 5 w r R2
  | 7, vs, w => ∃ r, vs 7 = .tuple #[millV G2 r M2, .int .i64 0] ∧ OwnB B 5 w r R2
  | 8, vs, w => ∃ r, vs 8 = millV G2 r M2 ∧ OwnB B 5 w r R2
  | 9, vs, _ => vs 9 = .int .i64 0
  | 10, vs, w => ∃ g, vs 10 = .pointer (some ⟨g, 0, none⟩) ∧ B ≤ g ∧ w.heap[g]? = some (.cells #[.int .u32 0, .int .u32 0, .int .u32 0, .int .u32 0, .int .u32 0, .int .u32 0, .int .u32 0, .int .u32 0, .slice none 0 0, .int .i64 0] 27 (0, 0))
  | _, vs, w => ∃ g r, vs 10 = .pointer (some ⟨g, 0, none⟩) ∧ OwnB B 5 w r R2 ∧ w.heap[g]? = some (.cells #[.int .u32 G2.a, .int .u32 G2.b, .int .u32 G2.c, .int .u32 G2.d, .int .u32 G2.e, .int .u32 G2.f, .int .u32 G2.g, .int .u32 G2.h, r, .int .i64 M2] 27 (0, 0))
theorem on_at6 {B : Nat} {V G2 : V8} {M M2 : Nat} {la lb R2 : List Int} {av bv : Value} {vs : Nat → Value} {w : World} (h : onΦ B V G2 M M2 la lb R2 av bv 6 vs w) : ∃ r, vs 6 = .tuple #[millV G2 r M2, .int .i64 0] ∧ OwnB B 5 w r R2 := h
theorem on_at11 {B : Nat} {V G2 : V8} {M M2 : Nat} {la lb R2 : List Int} {av bv : Value} {vs : Nat → Value} {w : World} (h : onΦ B V G2 M M2 la lb R2 av bv 11 vs w) : ∃ g r, vs 10 = .pointer (some ⟨g, 0, none⟩) ∧ OwnB B 5 w r R2 ∧ w.heap[g]? = some (.cells #[.int .u32 G2.a, .int .u32 G2.b, .int .u32 G2.c, .int .u32 G2.d, .int .u32 G2.e, .int .u32 G2.f, .int .u32 G2.g, .int .u32 G2.h, r, .int .i64 M2] 27 (0, 0)) := h
def onG (B : Nat) (i : Nat) (w w' : World) : Prop :=
  Below B w w' ∧ (((i = 3 ∨ i = 5) ∧ ∀ (g : Nat) (cs : Array Value), w.heap[g]? = some (Obj.cells cs 27 (0, 0)) → w'.heap[g]? = some (Obj.cells cs 27 (0, 0))) ∨ (i = 11 ∧ ∀ r l, OwnB B 5 w r l → OwnB B 5 w' r l) ∨ Below w.heap.size w w')
theorem onG_same (B i : Nat) (w : World) : onG B i w w := ⟨Below.refl _ _, .inr (.inr (Below.refl _ _))⟩
theorem onG_below {B i : Nat} {w w' : World} (hB : B ≤ w.heap.size) (hb : Below w.heap.size w w') : onG B i w w' := ⟨hb.mono hB, .inr (.inr hb)⟩
theorem onG_grown {B i : Nat} {w w' : World} {v : Value} {l : List Int} (hi : i = 3 ∨ i = 5) (h : OwnB B 5 w v l) (hg : w.grownBy w' v.ownBlock) (hB : B ≤ w.heap.size) : onG B i w w' :=
  ⟨h.below hg hB, .inl ⟨hi, fun _ _ hr => grown_row hg hr (own_ne h hr (by decide))⟩⟩
theorem onG_set {B g : Nat} {w : World} {cs : Array Value} (hr : w.heap[g]? = some (Obj.cells cs 27 (0, 0))) (hB : B ≤ g) (cs' : Array Value) : onG B 11 w (w.setRow g cs') :=
  ⟨below_setRow' (Below.refl _ _) hB _, .inr (.inl ⟨rfl, fun _ _ h => ownB_setRowT h hr (by decide) cs'⟩)⟩
theorem on_step8 {ops : Array Oper} {o : Oper} {a : Act} {B : Nat} {V G2 : V8} {M M2 : Nat} {la lb R2 : List Int} {av bv : Value} {vs : Nat → Value} {w : World} (hg : o.guard = none) (ho : o.op = .extract (.tmp 54) 0) (e : a.eval (.tmp 54) = vs 7) (h : onΦ B V G2 M M2 la lb R2 av bv 7 vs w) : FxStep Tryd.prog ops o a w (fun v w' => onΦ B V G2 M M2 la lb R2 av bv 8 (fun j => if j = 8 then v else vs j) w' ∧ onG B 8 w w') := by
  obtain ⟨r, hv, hr⟩ := h
  rw [hv] at e
  refine fx_val (v := millV G2 r M2) (w' := w) (by simp [Region.wanted, hg]) ?_ ⟨⟨r, rfl, hr⟩, onG_same _ _ _⟩
  unfold execOp
  generalize a.eval = ev at e ⊢
  simp [go_sem, ho, e]
theorem on_step9 {ops : Array Oper} {o : Oper} {a : Act} {B : Nat} {V G2 : V8} {M M2 : Nat} {la lb R2 : List Int} {av bv : Value} {vs : Nat → Value} {w : World} (hg : o.guard = none) (ho : o.op = .extract (.tmp 54) 1) (e : a.eval (.tmp 54) = vs 7) (h : onΦ B V G2 M M2 la lb R2 av bv 7 vs w) : FxStep Tryd.prog ops o a w (fun v w' => onΦ B V G2 M M2 la lb R2 av bv 9 (fun j => if j = 9 then v else vs j) w' ∧ onG B 9 w w') := by
  obtain ⟨r, hv, hr⟩ := h
  rw [hv] at e
  refine fx_val (v := .int .i64 0) (w' := w) (by simp [Region.wanted, hg]) ?_ ⟨rfl, onG_same _ _ _⟩
  unfold execOp
  generalize a.eval = ev at e ⊢
  simp [go_sem, ho, e]
theorem on_step11 {ops : Array Oper} {o : Oper} {a : Act} {B : Nat} {V G2 : V8} {M M2 : Nat} {la lb R2 : List Int} {av bv : Value} {vs : Nat → Value} {w : World} (hg : o.guard = none) (ho : o.op = .store 27 (.tmp 14) (.tmp 62)) (e1 : a.eval (.tmp 14) = vs 10) (e2 : a.eval (.tmp 62) = vs 8) (h8 : onΦ B V G2 M M2 la lb R2 av bv 8 vs w) (h10 : onΦ B V G2 M M2 la lb R2 av bv 10 vs w) : FxStep Tryd.prog ops o a w (fun v w' => onΦ B V G2 M M2 la lb R2 av bv 11 (fun j => if j = 11 then v else vs j) w' ∧ onG B 11 w w') := by
  obtain ⟨r, hv, hr⟩ := h8
  obtain ⟨g, hp, hgB, hrow⟩ := h10
  rw [hv] at e2
  rw [hp] at e1
  obtain ⟨ra, rc, hrr⟩ := hr.rd.slice
  exact fxu_store 27 (.tmp 14) (.tmp 62) hg ho g #[.int .u32 G2.a, .int .u32 G2.b, .int .u32 G2.c, .int .u32 G2.d, .int .u32 G2.e, .int .u32 G2.f, .int .u32 G2.g, .int .u32 G2.h, r, .int .i64 M2] e1 e2 27 _ hrow (by kernel_rfl) rfl (by subst hrr; first | kernel_rfl | (simp [Value.oneCell'])) ⟨⟨g, r, hp, ownB_setRowT hr hrow (by decide) _, setRow_heap _ _ _ _ _ _ hrow⟩, onG_set hrow hgB _⟩
theorem on_congr {B : Nat} {V G2 : V8} {M M2 : Nat} {la lb R2 : List Int} {av bv : Value} (j : Nat) (vs vs' : Nat → Value) (w : World) (hj : j < 12) (he : ∀ k, k = j ∨ k ∈ onA.getD j [] → vs k = vs' k)
    (h : onΦ B V G2 M M2 la lb R2 av bv j vs w) : onΦ B V G2 M M2 la lb R2 av bv j vs' w := by
  match j, hj with
  | 0, _ => exact (he 0 (.inl rfl)).symm.trans h
  | 1, _ => have h1 := he 1 (.inl rfl); have h2 : OwnB B 5 w (vs 1) [] := h; rw [h1] at h2; exact h2
  | 2, _ => exact (he 2 (.inl rfl)).symm.trans h
  | 3, _ => have h1 := he 3 (.inl rfl); have h2 : OwnB B 5 w (vs 3) la := h; rw [h1] at h2; exact h2
  | 4, _ => exact (he 4 (.inl rfl)).symm.trans h
  | 5, _ => have h1 := he 5 (.inl rfl); have h2 : OwnB B 5 w (vs 5) (la ++ lb) := h; rw [h1] at h2; exact h2
  | 6, _ => obtain ⟨r, e, h1⟩ := h; exact ⟨r, (he 6 (.inl rfl)).symm.trans e, h1⟩
  | 7, _ => obtain ⟨r, e, h1⟩ := h; exact ⟨r, (he 7 (.inl rfl)).symm.trans e, h1⟩
  | 8, _ => obtain ⟨r, e, h1⟩ := h; exact ⟨r, (he 8 (.inl rfl)).symm.trans e, h1⟩
  | 9, _ => exact (he 9 (.inl rfl)).symm.trans h
  | 10, _ => obtain ⟨g, e, h1, h2⟩ := h; exact ⟨g, (he 10 (.inl rfl)).symm.trans e, h1, h2⟩
  | 11, _ => obtain ⟨g, r, e, h1, h2⟩ := h; exact ⟨g, r, (he 10 (.inr (by decide))).symm.trans e, h1, h2⟩
  | j' + 12, hj' => exact absurd hj' (by omega)
theorem on_keep {B : Nat} {V G2 : V8} {M M2 : Nat} {la lb R2 : List Int} {av bv : Value} (i j : Nat) (vs : Nat → Value) (w w' : World) (hi : i < 12) (hj : j < 12) (ha : fxAfter onA i j = true) (hn : fxNeed 12 onA onU onF i j = true)
    (h : onΦ B V G2 M M2 la lb R2 av bv j vs w) (hg : onG B i w w') : onΦ B V G2 M M2 la lb R2 av bv j vs w' := by
  obtain ⟨_, ⟨(rfl | rfl), hm⟩ | ⟨rfl, hs⟩ | hb⟩ := hg
  · match j, hj with
    | 0, _ => exact h
    | 1, _ => first | exact absurd ha (by decide) | exact absurd hn (by decide)
    | 2, _ => exact h
    | 3, _ => first | exact absurd ha (by decide) | exact absurd hn (by decide)
    | 4, _ => exact h
    | 5, _ => first | exact absurd ha (by decide) | exact absurd hn (by decide)
    | 6, _ => first | exact absurd ha (by decide) | exact absurd hn (by decide)
    | 7, _ => first | exact absurd ha (by decide) | exact absurd hn (by decide)
    | 8, _ => first | exact absurd ha (by decide) | exact absurd hn (by decide)
    | 9, _ => exact h
    | 10, _ => obtain ⟨g, e, h1, h2⟩ := h; exact ⟨g, e, h1, hm g _ h2⟩
    | 11, _ => first | exact absurd ha (by decide) | exact absurd hn (by decide)
    | j' + 12, hj' => exact absurd hj' (by omega)
  · match j, hj with
    | 0, _ => exact h
    | 1, _ => first | exact absurd ha (by decide) | exact absurd hn (by decide)
    | 2, _ => exact h
    | 3, _ => first | exact absurd ha (by decide) | exact absurd hn (by decide)
    | 4, _ => exact h
    | 5, _ => first | exact absurd ha (by decide) | exact absurd hn (by decide)
    | 6, _ => first | exact absurd ha (by decide) | exact absurd hn (by decide)
    | 7, _ => first | exact absurd ha (by decide) | exact absurd hn (by decide)
    | 8, _ => first | exact absurd ha (by decide) | exact absurd hn (by decide)
    | 9, _ => exact h
    | 10, _ => obtain ⟨g, e, h1, h2⟩ := h; exact ⟨g, e, h1, hm g _ h2⟩
    | 11, _ => first | exact absurd ha (by decide) | exact absurd hn (by decide)
    | j' + 12, hj' => exact absurd hj' (by omega)
  · match j, hj with
    | 0, _ => exact h
    | 1, _ => exact hs _ _ h
    | 2, _ => exact h
    | 3, _ => exact hs _ _ h
    | 4, _ => exact h
    | 5, _ => exact hs _ _ h
    | 6, _ => obtain ⟨r, e, h1⟩ := h; exact ⟨r, e, hs _ _ h1⟩
    | 7, _ => obtain ⟨r, e, h1⟩ := h; exact ⟨r, e, hs _ _ h1⟩
    | 8, _ => obtain ⟨r, e, h1⟩ := h; exact ⟨r, e, hs _ _ h1⟩
    | 9, _ => exact h
    | 10, _ => first | exact absurd ha (by decide) | exact absurd hn (by decide)
    | 11, _ => first | exact absurd ha (by decide) | exact absurd hn (by decide)
    | j' + 12, hj' => exact absurd hj' (by omega)
  · match j, hj with
    | 0, _ => exact h
    | 1, _ => exact OwnB.kept h hb
    | 2, _ => exact h
    | 3, _ => exact OwnB.kept h hb
    | 4, _ => exact h
    | 5, _ => exact OwnB.kept h hb
    | 6, _ => obtain ⟨r, e, h1⟩ := h; exact ⟨r, e, OwnB.kept h1 hb⟩
    | 7, _ => obtain ⟨r, e, h1⟩ := h; exact ⟨r, e, OwnB.kept h1 hb⟩
    | 8, _ => obtain ⟨r, e, h1⟩ := h; exact ⟨r, e, OwnB.kept h1 hb⟩
    | 9, _ => exact h
    | 10, _ => obtain ⟨g, e, h1, h2⟩ := h; exact ⟨g, e, h1, rowD h2 hb⟩
    | 11, _ => obtain ⟨g, r, e, h1, h2⟩ := h; exact ⟨g, r, e, OwnB.kept h1 hb, rowD h2 hb⟩
    | j' + 12, hj' => exact absurd hj' (by omega)
theorem restD {w : World} {a : Option Addr} {n c : Nat} {l : List Int} (h : RdB w (.slice a n c) l) (hn : l.length = n) (k : Nat) (hk : k ≤ n) :
    (c - k = 0 → RdB w (.slice a (n - k) (c - k)) (l.drop k)) ∧ (∀ b o, a = some ⟨b, o, none⟩ → RdB w (.slice (some ⟨b, o + k, none⟩) (n - k) (c - k)) (l.drop k)) := by
  have hd : (l.drop k).length = n - k := by simp [hn]
  rcases h with ⟨a', c', he, hc, rfl⟩ | ⟨b, o, c', he, h1, h2, h3, h4⟩
  · obtain ⟨rfl, rfl, rfl⟩ : a = a' ∧ n = 0 ∧ c = c' := by injection he with e1 e2 e3; exact ⟨e1, e2, e3⟩
    have hk0 : k = 0 := by omega
    subst hk0
    refine ⟨fun _ => .inl ⟨a, c, rfl, hc, rfl⟩, fun b o ha => .inl ⟨_, c, rfl, (fun h => by cases h), rfl⟩⟩
  · obtain ⟨rfl, _, rfl⟩ : a = some ⟨b, o, none⟩ ∧ n = l.length ∧ c = c' := by injection he with e1 e2 e3; exact ⟨e1, e2, e3⟩
    subst hn
    have hcell : ∀ i, i < (l.drop k).length → w.cell? ⟨b, o + k + i, none⟩ = some (.int .u8 (ith (l.drop k) i)) := fun i hi => by
      rw [hd] at hi
      rw [ith_drop, Nat.add_assoc]; exact h4 _ (by omega)
    refine ⟨fun hc0 => ?_, fun b' o' ha => ?_⟩
    · have e0 : l.length - k = 0 := by omega
      rw [e0]
      exact .inl ⟨_, _, rfl, (fun h => by cases h), by apply List.eq_nil_of_length_eq_zero; omega⟩
    · obtain ⟨rfl, rfl⟩ : b = b' ∧ o = o' := by simpa using ha
      exact .inr ⟨b, o + k, c - k, by rw [hd], by omega, by omega, h3, hcell⟩
theorem sliceKD {w : World} {a : Option Addr} {n c : Nat} {l : List Int} (h : RdB w (.slice a n c) l) (hn : l.length = n) (u : Nat) (hu : u ≤ n) :
    ∃ a', sliced a u n c 1 = .slice a' (l.drop u).length (c - u) ∧ RdB w (.slice a' (l.drop u).length (c - u)) (l.drop u) := by
  have hd : (l.drop u).length = n - u := by simp [hn]
  have hq := restD h hn u hu
  unfold sliced
  rw [hd]
  by_cases hc : c = u
  · rw [if_pos hc]
    exact ⟨a, rfl, hq.1 (by omega)⟩
  · rw [if_neg hc]
    rcases h with ⟨a', c', he, hz, rfl⟩ | ⟨b, o, c', he, h1, h2, h3, h4⟩
    · obtain rfl : n = 0 := by injection he
      obtain rfl : u = 0 := by omega
      refine ⟨_, rfl, ?_⟩
      injection he with e1 e2 e3
      subst e1 e3
      exact .inl ⟨_, _, rfl, (fun h => by
        cases a with
        | none => have := hz rfl; omega
        | some A => cases h), rfl⟩
    · injection he with e1 e2 e3
      subst e1
      refine ⟨_, rfl, ?_⟩
      have h2 := hq.2 b o rfl
      rw [Option.map_some, addr_add, Nat.mul_one]
      exact h2
theorem qa_cutD {P : Program} {C : World → Prop} {o : Oper} {a : Act} (t : TypeId) (x y : Operand) (ho : o.op = .slice t x (some y) none none)
    (ht : P.underlying t = some (.slice (P.elem t))) (hs : (P.info? (P.elem t)).map (·.size) = some 1) (b : Option Addr) (n c : Nat) (hx : a.eval x = .slice b n c) (u : Nat) (hy : a.eval y = .int .i64 (u : Int)) (hu : u ≤ n) (v : Value) (hv : sliced b u n c 1 = v) : ∀ w, C w → o.quietAt P a C w v := by
  intro w _
  refine qa_ok ?_
  have hl := run_slice_l (P := P) (w := w) t b n c ht .i64 (u : Int) (by omega) (by omega)
  have hsz : (sizeOf (P.elem t)).run P w = .ok 1 w := by
    cases hi : P.info? (P.elem t) with
    | none => rw [hi] at hs; cases hs
    | some i =>
      rw [hi] at hs
      have : i.size = 1 := by simpa using hs
      simp [sizeOf, typeInfo, hi, this]
  rw [hsz] at hl
  simp only [Result.andThen_ok, Int.toNat_natCast] at hl
  rw [hv] at hl
  unfold execOp
  simp only [ho, hx, Option.map_some, Option.map_none, hy]
  simp only [Sem.run_bind, run_sliceAt_slice (P := P) (w := w) t _ _ _ _ ht, hl, Sem.run_pure, Result.andThen_ok]
end Go.Proofs.YtfaojjleapenaabDoor

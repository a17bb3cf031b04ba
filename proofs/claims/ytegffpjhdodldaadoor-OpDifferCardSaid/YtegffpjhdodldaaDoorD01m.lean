import Derived.Test.YtegffpjhdodldaaDoorD01l
namespace Go.Proofs.YtegffpjhdodldaaDoor
open Go.RowKit Go.YtegffpjhdodldaaDoor
set_option linter.unusedVariables false
variable {Tg Tf : TypeId}
def sL (s : ByteArray) : List Int := s.data.toList.map (fun b => (b.toNat : Int))
theorem sL_length (s : ByteArray) : (sL s).length = s.size := by simp [sL]
theorem sL_bytes (s : ByteArray) : Bytes (sL s) := by
  intro i
  simp only [sL, ith, List.getElem?_map]
  cases h : s.data.toList[i]? with
  | none => simp
  | some b => have := b.toNat_lt; simp; omega
theorem rd_str (w : World) (s : ByteArray) (hs : s.size ≤ 10000) (m : Nat × Nat) :
    RdB (w.drew.alloc (.cells (bytesRow s (grownCap w s.size 0 5)) 5 m)) (.slice (some ⟨w.heap.size, 0, none⟩) s.size (grownCap w s.size 0 5)) (sL s) := by
  refine .inr ⟨w.heap.size, 0, _, by rw [sL_length], by rw [sL_length]; exact grownCap_ge w _ _ _, grownCap_le_maxLen w _ _ _ (by unfold maxLen; omega), by simp, fun i hi => ?_⟩
  rw [sL_length] at hi
  have hrow : (w.drew.alloc (.cells (bytesRow s (grownCap w s.size 0 5)) 5 m)).heap[w.heap.size]? = some (.cells (bytesRow s (grownCap w s.size 0 5)) 5 m) := heap_alloc_new w.drew _
  rw [Nat.zero_add]
  unfold World.cell?
  rw [hrow]
  have hi' : i < s.data.size := hi
  have hg : s.data[i]? = some s.data[i] := Array.getElem?_eq_getElem hi'
  have hsz : (s.data.map (fun b => Value.int .u8 b.toNat)).size = s.size := by simp
  simp only [bytesRow, Array.getElem?_append, hsz, hi, if_true, Array.getElem?_map, hg, Option.map_some, sL, ith, List.getElem?_map, Array.getElem?_toList, Option.getD_some]
  simp
theorem storeNew {P : Program} {ops : Array Oper} {rest : List Oper} {o : Oper} {a : Act} {Q : Exit → Act → World → Prop} {old : Array Value} (w1 : World) (hgd : o.guard = none) (ty : TypeId) (x y : Operand) (ho : o.op = .store ty x y)
    (cells : Array Value) (t : TypeId) (hx : a.eval x = .pointer (some ⟨w1.heap.size, 0, none⟩)) (hy : a.eval y = .agg cells)
    (hi : (P.info? ty).map (·.size) = some cells.size) (hold : old.size = cells.size) (h1 : cells.all (·.oneCell') = true)
    (h : ∀ wx, wx.heap[w1.heap.size]? = some (.cells cells t (0, 0)) → Below w1.heap.size w1 wx → wpList P ops Q rest (a.put o.dst undef) wx) :
    wpList P ops Q (o :: rest) a (w1.alloc (.cells old t)) := by
  have hg := heap_alloc_new w1 (.cells old t)
  refine wpList_store_row hgd ty x y ho w1.heap.size cells hx hy t old hg hi hold h1 (h _ (setRow_heap _ _ _ _ _ _ hg) ?_)
  exact below_setRow' ((Below.refl _ _).alloc (Nat.le_refl _) _) (Nat.le_refl _) _
theorem Stop.go' (p : Prop) (h : Stop p) : p := h
theorem cellB {w : World} {g : Nat} {D : List Int} {T : TypeId} (hr : w.heap[g]? = some (.cells (u8s D) T (0, 0))) (hn : D.length = 32) (k : Nat) (x : Int) (hx : ith D k = x) (hk : k < 32) : w.cell? ⟨g, k, none⟩ = some (.int .u8 x) := by
  subst hx
  rw [cell_of_row _ _ _ _ _ _ hr]
  exact u8s_get _ _ (by omega)
theorem cells4 {w : World} {g : Nat} {a b c d : Value} {T : TypeId} (hr : w.heap[g]? = some (.cells #[a, b, c, d] T (0, 0))) : w.cell? ⟨g, 0, none⟩ = some a ∧ w.cell? ⟨g, 1, none⟩ = some b ∧ w.cell? ⟨g, 2, none⟩ = some c ∧ w.cell? ⟨g, 3, none⟩ = some d :=
  ⟨cell_of_row _ _ _ _ _ _ hr, cell_of_row _ _ _ _ _ _ hr, cell_of_row _ _ _ _ _ _ hr, cell_of_row _ _ _ _ _ _ hr⟩
set_option maxRecDepth 100000 in
set_option maxHeartbeats 400000 in
theorem is_any (D : List Int) (s : ByteArray) (x0 x1 x2 x3 x31 : Int) (w : World) (hs : s.size ≤ 10000) (hD : shaF (sL s) = D)
    (h0 : ith D 0 = x0) (h1 : ith D 1 = x1) (h2 : ith D 2 = x2) (h3 : ith D 3 = x3) (h31 : ith D 31 = x31)
   (hg : w.heap[1]? = some (.cells (u32s constW) Tg (0, 0))) (hgf : w.heap[0]? = some (.cells firstW.cells Tf (0, 0))) : 
    Calls Tryd.prog 37 #[.string s, .agg #[.int .u8 x0, .int .u8 x1, .int .u8 x2, .int .u8 x3], .int .u8 x31] w
     fun e w' => e = .returned (.bool true) ∧ Below w.heap.size w w' := by
  have hlt : 1 < w.heap.size := (Array.getElem?_eq_some_iff.1 hg).1
  have hltf : 0 < w.heap.size := (Array.getElem?_eq_some_iff.1 hgf).1
  have kc := fun (w : World) => run_bytes_of_string (P := Tryd.prog) w 9 40 5 s Tryd.underlying9 Tryd.underlying40 Tryd.underlying5
  have hsum : ∀ o1 m, Calls Tryd.prog 34 #[.slice (some ⟨w.heap.size + 1, 0, none⟩) s.size (grownCap (w.alloc o1) s.size 0 5)] ((w.alloc o1).drew.alloc (.cells (bytesRow s (grownCap (w.alloc o1) s.size 0 5)) 5 m)) fun e w' => e = .returned (.tuple #[.agg (u8s D), .int .i64 0]) ∧ Below (w.heap.size + 2) ((w.alloc o1).drew.alloc (.cells (bytesRow s (grownCap (w.alloc o1) s.size 0 5)) 5 m)) w' := by
    intro o1 m
    have hB : Below w.heap.size w ((w.alloc o1).drew.alloc (.cells (bytesRow s (grownCap (w.alloc o1) s.size 0 5)) 5 m)) := (((Below.refl _ _).alloc (Nat.le_refl _) _).drew).alloc (by simp) _
    have h := sum_any (Tg := Tg) (Tf := Tf) D _ _ _ (rd_str (w.alloc o1) s hs m) (sL_bytes s) (by rw [sL_length]; exact hs) hD ((hB.block _ hlt).trans hg) ((hB.block _ hltf).trans hgf)
    simpa using h
  have hDl : D.length = 32 := by rw [← hD]; exact shaF_length _
  have hi : (Tryd.prog.info? 55).map (·.size) = some (u8s D).size := by rw [u8s_size, hDl]; kernel_rfl
  have hs2 : 32 = (u8s D).size := by rw [u8s_size, hDl]
  have hDl' := Lib.hid hDl; have hi' := Lib.hid hi; have hs2' := Lib.hid hs2
  have hsum' := Lib.hid hsum
  clear hi hs2 hDl
  clear hsum hg hgf hD hs
  go_enter Tryd.func37, Tryd.ntmps37
  go_wp2_with (first | (go_at_call 34; refine (hsum'.out _ _).mono ?_; rintro e w1 ⟨rfl, hb1⟩; have hq1 := Lib.hid ((hb1.block w.heap.size (by omega)).trans ((hp1 _ _ _ (by simp)).trans (heap_alloc_new w _))); have hB1 := Lib.hid (((((Below.refl w.heap.size w).alloc (Nat.le_refl _) _).drew).alloc (by simp) _).trans (hb1.mono (by omega))); have hlt1 : w.heap.size < w1.heap.size := Nat.lt_of_lt_of_le (by simp; omega) hb1.size; clear hb1) | (refine storeNew w1 rfl 55 _ _ rfl (u8s D) 55 rfl rfl hi'.out (Eq.trans (by kernel_rfl) hs2'.out) (u8s_one _) ?_; intro wx hr hb2; have hq2 := (hb2.block _ hlt1).trans hq1.out; have hB2 := Lib.hid (hB1.out.trans (hb2.mono (Nat.le_of_lt hlt1))); clear hb2; have e0 := cellB hr hDl'.out 0 x0 h0 (by decide); have e1 := cellB hr hDl'.out 1 x1 h1 (by decide); have e2 := cellB hr hDl'.out 2 x2 h2 (by decide); have e3 := cellB hr hDl'.out 3 x3 h3 (by decide); have e31 := cellB hr hDl'.out 31 x31 h31 (by decide); obtain ⟨f0, f1, f2, f3⟩ := cells4 hq2; clear hr hq2; refine Stop.go' _ ?_))
  refine Stop.go ?_
  clear hsum' hi' hs2'
  go_wp2
  go_ret
  exact ⟨rfl, hB2.out⟩
end Go.Proofs.YtegffpjhdodldaaDoor

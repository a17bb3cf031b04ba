/- Contracts of package value and of its reference: the parts of a float, classes, values of one part. -/
import Derived.Test.YtegffpjhdodldaaDoorV01
import Derived.Test.YtegffpjhdodldaaDoorW02
import Derived.Test.YtegffpjhdodldaaDoorShelfV
import Derived.ProofKit
namespace Go.Proofs.YtegffpjhdodldaaDoor.wir.val
open Go.RowKit Go.YtegffpjhdodldaaDoor
set_option linter.unusedVariables false
theorem split_any (b : Nat) (hb : b < 18446744073709551616) (w : World) :
    Calls Tryd.prog 105 #[.int .u64 (b : Int)] w fun e w' => e = .returned (.tuple #[.int .u64 (spX b : Nat), .int .u64 (spF b : Nat)]) ∧ w = w' := by
  have h1 := and_2047 (b / 4503599627370496) (by omega)
  have h2 := and_F b hb
  rw [show ((b / 4503599627370496 : Nat) : Int) = (b : Int) / 4503599627370496 from by omega] at h1
  go_enter Tryd.func105, Tryd.ntmps105
  go_wp2
  go_ret2
  exact ⟨by simp [spX, spF], rfl⟩
theorem class_any (b : Nat) (hb : b < 18446744073709551616) (w : World) :
    Calls Tryd.prog 102 #[.int .u64 (b : Int)] w fun e w' => e = .returned (.int .u8 (clsF b : Nat)) ∧ w = w' := by
  have hs := Lib.hid (fun w => split_any b hb w)
  have hX := spX_lt b
  unfold clsF
  generalize spX b = X at *
  generalize spF b = F at *
  generalize hC : (if X = 0 ∧ F = 0 then 1 else if X = 0 then 2 else if X = 2047 ∧ F = 0 then 4 else if X = 2047 then 5 else 3) = C
  have hC' := Lib.hid hC
  clear hb hC
  go_enter Tryd.func102, Tryd.ntmps102
  go_wp2_with (go_at_call 105; (with_reducible refine (hs.out _).mono ?_); rintro e w' ⟨rfl, rfl⟩)
  all_goals
    go_ret
    refine ⟨ret_int ?_, rfl⟩
    have hC := hC'.out
    clear hC' hs
    try simp only [beq_iff_eq, beq_eq_false_iff_ne] at *
    (repeat' split at hC) <;> omega
theorem canon_any (b : Nat) (hb : b < 18446744073709551616) (w : World) :
    Calls Tryd.prog 98 #[.int .u64 (b : Int)] w fun e w' => e = .returned (.int .u64 (canF b : Nat)) ∧ w = w' := by
  have hs := Lib.hid (fun w => class_any b hb w)
  unfold canF
  generalize clsF b = X at *
  generalize hC : (if X = 5 then 9221120237041090560 else b) = C
  have hC' := Lib.hid hC
  clear hb hC
  go_enter Tryd.func98, Tryd.ntmps98
  go_wp2_with (go_at_call 102; (with_reducible refine (hs.out _).mono ?_); rintro e w' ⟨rfl, rfl⟩)
  all_goals
    go_ret
    refine ⟨ret_int ?_, rfl⟩
    have hC := hC'.out
    clear hC' hs
    try simp only [beq_iff_eq, beq_eq_false_iff_ne] at *
    (repeat' split at hC) <;> omega
theorem storeNew {P : Program} {ops : Array Oper} {rest : List Oper} {o : Oper} {a : Act} {Q : Exit → Act → World → Prop} {old : Array Value} (w1 : World) (hgd : o.guard = none) (ty : TypeId) (x y : Operand) (ho : o.op = .store ty x y)
    (cells : Array Value) (t : TypeId) (hx : a.eval x = .pointer (some ⟨w1.heap.size, 0, none⟩)) (hy : a.eval y = .agg cells)
    (hi : (P.info? ty).map (·.size) = some cells.size) (hold : old.size = cells.size) (h1 : cells.all (·.oneCell') = true)
    (h : ∀ wx, wx.heap[w1.heap.size]? = some (.cells cells t (0, 0)) → Below w1.heap.size w1 wx → wpList P ops Q rest (a.put o.dst undef) wx) :
    wpList P ops Q (o :: rest) a (w1.alloc (.cells old t)) := by
  have hg := heap_alloc_new w1 (.cells old t)
  refine wpList_store_row hgd ty x y ho w1.heap.size cells hx hy t old hg hi hold h1 (h _ (setRow_heap _ _ _ _ _ _ hg) ?_)
  exact below_setRow' ((Below.refl _ _).alloc (Nat.le_refl _) _) (Nat.le_refl _) _
abbrev vA (k n : Int) (b : Nat) (s : ByteArray) : Value := .agg #[.int .u8 k, .int .i64 n, .int .u64 (b : Int), .string s]
theorem val_one (k n b : Int) (s : ByteArray) : (#[Value.int .u8 k, .int .i64 n, .int .u64 b, .string s] : Array Value).all (·.oneCell') = true := by simp [Value.oneCell']
theorem info_val : (Tryd.prog.info? 26).map (·.size) = some 4 := by kernel_rfl
/-- A row in a later world. -/
theorem rowB {B : Nat} {w w' : World} {g : Nat} {b : Obj} (h : w.heap[g]? = some b) (hb : Below B w w') (hg : g < B) : w'.heap[g]? = some b := by
  rw [hb.block g hg]; exact h
theorem quiet_cell {P : Program} {C : World → Prop} {o : Oper} {a : Act} (ty : TypeId) (x : Operand) (ho : o.op = .load ty x) (g k : Nat) (hx : a.eval x = .pointer (some ⟨g, k, none⟩)) (v : Value)
    (hC : ∀ w, C w → w.cell? ⟨g, k, none⟩ = some v) (hu : ∀ w, (isAgg ty).run P w = .ok false w) : ∀ w, C w → o.quietAt P a C w v := by
  intro w hw
  have hc := hC w hw
  unfold Oper.quietAt execOp
  generalize a.eval = ev at *
  simp only [ho]
  simp [go_sem, hx, hu, hc]
set_option maxRecDepth 100000 in
theorem number_val (n : Int) (w : World) :
    Calls Tryd.prog 89 #[.int .i64 n] w fun e w' => e = .returned (vA 1 n 0 ⟨#[]⟩) ∧ Below w.heap.size w w' := by
  go_enter Tryd.func89, Tryd.ntmps89
  go_wp2
  exact bodyPost_ret (results_cell_row rfl _ _ w.heap.size 26 _ _ _ rfl (heap_alloc_new w _) Tryd.underlying26 rfl info_val) rfl ⟨rfl, (Below.refl _ _).alloc (Nat.le_refl _) _⟩
set_option maxRecDepth 100000 in
theorem float_val (b : Nat) (hb : b < 18446744073709551616) (w : World) :
    Calls Tryd.prog 90 #[.int .u64 (b : Int)] w fun e w' => e = .returned (vA 2 0 (canF b) ⟨#[]⟩) ∧ Below w.heap.size w w' := by
  have hs := Lib.hid (fun w => canon_any b hb w)
  generalize canF b = C at *
  clear hb
  go_enter Tryd.func90, Tryd.ntmps90
  go_wp2_with (go_at_call 98; (with_reducible refine (hs.out _).mono ?_); rintro e w' ⟨rfl, rfl⟩)
  exact bodyPost_ret (results_cell_row rfl _ _ w.heap.size 26 _ _ _ rfl (heap_alloc_new w _) Tryd.underlying26 rfl info_val) rfl ⟨rfl, (Below.refl _ _).alloc (Nat.le_refl _) _⟩
/-- The bytes of a string. -/
def sI (s : ByteArray) : List Int := s.data.toList.map fun c => (c.toNat : Int)
theorem sI_length (s : ByteArray) : (sI s).length = s.size := by unfold sI; rw [List.length_map]; rfl
theorem sI_get (s : ByteArray) (i : Nat) (h : i < s.size) : ((s[i].toNat : Nat) : Int) = ith (sI s) i := by
  obtain ⟨⟨l⟩⟩ := s
  have hl : i < l.length := h
  simp only [sI, ith]
  rw [List.getElem?_map, List.getElem?_eq_getElem hl]
  rfl
def okB (l : List Int) : Bool := l.all fun c => decide (32 ≤ c) && decide (c ≤ 126)
theorem okB_step (l : List Int) (k : Nat) (h : okB (l.take k) = true) (hk : k < l.length) (h1 : 32 ≤ ith l k) (h2 : ith l k ≤ 126) : okB (l.take (k + 1)) = true := by
  rw [take_succ_ith l k hk]
  unfold okB at *
  rw [List.all_append, h]
  simp [h1, h2]
theorem okB_not (l : List Int) (k : Nat) (hk : k < l.length) (h : ith l k < 32 ∨ 126 < ith l k) : okB l = false := by
  unfold okB
  rw [List.all_eq_false]
  refine ⟨ith l k, ?_, ?_⟩
  · unfold ith
    rw [List.getElem?_eq_getElem hk]
    exact List.getElem_mem hk
  · simp; omega
def intOf : Value → Int
  | .int _ n => n
  | _ => 0
theorem allowed_any (s : ByteArray) (hs : s.size ≤ 1000000) (w : World) :
    Calls Tryd.prog 99 #[.string s] w fun e w' => e = .returned (.bool (okB (sI s))) ∧ w = w' := by
  have hi := Lib.hid (sI_get s)
  have hl := sI_length s
  generalize hL : sI s = L at *
  clear hL
  go_enter Tryd.func99, Tryd.ntmps99
  go_wp2
  go_loop [6] (fun i => ∃ k : Nat, k ≤ s.size ∧ i = .int .i64 (k : Int) ∧ okB (L.take k) = true) (fun i => s.size - (intOf i).toNat)
  case atStart => exact ⟨0, Nat.zero_le _, rfl, rfl⟩
  case round =>
    obtain ⟨k, hk, rfl, ho⟩ := hrel
    by_cases hlt : k < s.size
    · have hc := hi.out k hlt
      go_wp2
      case roundEnd => exact ⟨⟨k + 1, by omega, rfl, okB_step L k ho (by omega) (by omega) (by omega)⟩, by simp [intOf]; omega⟩
      all_goals
        go_ret
        exact ⟨ret_bool (okB_not L k (by omega) (by omega)).symm, rfl⟩
    · obtain rfl : k = s.size := by omega
      have ho' : okB L = true := by rw [← hl, List.take_length] at ho; exact ho
      clear hk hlt ho hi
      go_wp2
      go_ret
      first | exact ⟨rfl, rfl⟩ | exact ⟨ret_bool ho'.symm, rfl⟩
theorem printable_any (s : ByteArray) (hs : s.size ≤ 1000000) (w : World) :
    Calls Tryd.prog 94 #[.string s] w fun e w' => e = .returned (.bool (okB (sI s))) ∧ w = w' := by
  have hi := Lib.hid (sI_get s)
  have hl := sI_length s
  generalize hL : sI s = L at *
  clear hL
  go_enter Tryd.func94, Tryd.ntmps94
  go_wp2
  go_loop [3] (fun i => ∃ k : Nat, k ≤ s.size ∧ i = .int .i64 (k : Int) ∧ okB (L.take k) = true) (fun i => s.size - (intOf i).toNat)
  case atStart => exact ⟨0, Nat.zero_le _, rfl, rfl⟩
  case round =>
    obtain ⟨k, hk, rfl, ho⟩ := hrel
    by_cases hlt : k < s.size
    · have hc := hi.out k hlt
      go_wp2
      case roundEnd => exact ⟨⟨k + 1, by omega, rfl, okB_step L k ho (by omega) (by omega) (by omega)⟩, by simp [intOf]; omega⟩
      all_goals
        go_ret
        exact ⟨ret_bool (okB_not L k (by omega) (by omega)).symm, rfl⟩
    · obtain rfl : k = s.size := by omega
      have ho' : okB L = true := by rw [← hl, List.take_length] at ho; exact ho
      clear hk hlt ho hi
      go_wp2
      go_ret
      first | exact ⟨rfl, rfl⟩ | exact ⟨ret_bool ho'.symm, rfl⟩
theorem clone_any (s : ByteArray) (hs : s.size ≤ 1000000) (w : World) :
    Calls Tryd.prog 48 #[.string s] w fun e w' => e = .returned (.string s) ∧ Below w.heap.size w w' := by
  have hc := Lib.hid (fun w => Tryd.stringslite_Clone s w (by omega))
  clear hs
  go_enter Tryd.func48, Tryd.ntmps48
  go_wp2_with (go_at_call 72; (with_reducible refine (hc.out _).mono ?_); rintro e w' ⟨rfl, hb⟩; have hb' := Lib.hid hb; clear hb)
  go_ret
  exact ⟨rfl, hb'.out⟩
/-- What Text answers. -/
def txtE (s : ByteArray) : Int := if 30 < s.size then 4 else if okB (sI s) = true then 0 else 8
def txtV (s : ByteArray) : Value := if txtE s = 0 then vA 3 0 0 s else vA 0 0 0 ⟨#[]⟩
theorem storeOver {P : Program} {ops : Array Oper} {rest : List Oper} {o : Oper} {a : Act} {Q : Exit → Act → World → Prop} (w : World) (g : Nat) (old : Array Value) (hgd : o.guard = none) (ty : TypeId) (x y : Operand) (ho : o.op = .store ty x y)
    (cells : Array Value) (t : TypeId) (hg : w.heap[g]? = some (.cells old t (0, 0))) (hx : a.eval x = .pointer (some ⟨g, 0, none⟩)) (hy : a.eval y = .agg cells)
    (hi : (P.info? ty).map (·.size) = some cells.size) (hold : old.size = cells.size) (h1 : cells.all (·.oneCell') = true)
    (h : ∀ wx, wx.heap[g]? = some (.cells cells t (0, 0)) → Below g w wx → wpList P ops Q rest (a.put o.dst undef) wx) :
    wpList P ops Q (o :: rest) a w := by
  refine wpList_store_row hgd ty x y ho g cells hx hy t old hg hi hold h1 (h _ (setRow_heap _ _ _ _ _ _ hg) ?_)
  exact below_setRow' (Below.refl _ _) (Nat.le_refl _) _
set_option maxRecDepth 100000 in
theorem text_any (s : ByteArray) (hs : s.size ≤ 1000000) (w : World) :
    Calls Tryd.prog 91 #[.string s] w fun e w' => e = .returned (.tuple #[txtV s, .int .i64 (txtE s)]) ∧ Below w.heap.size w w' := by
  have hA := Lib.hid (fun w => allowed_any s hs w)
  have hc := Lib.hid (fun w => clone_any s hs w)
  by_cases h1 : 30 < s.size
  · have e : txtE s = 4 := by unfold txtE; rw [if_pos h1]
    rw [txtV, e, if_neg (by decide)]
    clear hA hc e
    go_enter Tryd.func91, Tryd.ntmps91
    go_wp2
    exact bodyPost_ret (results_row_tmp rfl _ _ w.heap.size 26 _ _ _ rfl (heap_alloc_new w _) Tryd.underlying26 rfl info_val) rfl ⟨rfl, (Below.refl _ _).alloc (Nat.le_refl _) _⟩
  cases ho : okB (sI s)
  · have e : txtE s = 8 := by unfold txtE; rw [if_neg h1, ho]; rfl
    rw [ho] at hA
    rw [txtV, e, if_neg (by decide)]
    clear hc e ho
    go_enter Tryd.func91, Tryd.ntmps91
    go_wp2_with (go_at_call 99; (with_reducible refine (hA.out _).mono ?_); rintro e w' ⟨rfl, rfl⟩)
    exact bodyPost_ret (results_row_tmp rfl _ _ w.heap.size 26 _ _ _ rfl (heap_alloc_new w _) Tryd.underlying26 rfl info_val) rfl ⟨rfl, (Below.refl _ _).alloc (Nat.le_refl _) _⟩
  · have e : txtE s = 0 := by unfold txtE; rw [if_neg h1, ho]; rfl
    rw [ho] at hA
    rw [txtV, e, if_pos rfl]
    clear e ho
    have hrow := Lib.hid (heap_alloc_new w (.cells #[.int .u8 0, .int .i64 0, .int .u64 0, .string ⟨#[]⟩] 26))
    go_enter Tryd.func91, Tryd.ntmps91
    go_wp2_with (first | (go_at_call 99; (with_reducible refine (hA.out _).mono ?_); rintro e w' ⟨rfl, rfl⟩) | (go_at_call 48; (with_reducible refine (hc.out _).mono ?_); rintro e w1 ⟨rfl, hb⟩; have hr1 := rowB hrow.out hb (by simp); have hr1' := Lib.hid hr1; have hb' := Lib.hid hb; clear hb hr1) | (refine storeOver w1 w.heap.size _ rfl 26 _ _ rfl #[.int .u8 3, .int .i64 0, .int .u64 0, .string s] 26 hr1'.out rfl rfl info_val rfl (val_one _ _ _ _) ?_; intro w2 hr2 hb2; have hr2' := Lib.hid hr2; have hb2' := Lib.hid hb2; clear hr2 hb2))
    exact bodyPost_ret (results_row_tmp rfl _ _ w.heap.size 26 _ _ _ rfl hr2'.out Tryd.underlying26 rfl info_val) rfl ⟨rfl, (((Below.refl _ _).alloc (Nat.le_refl _) _).trans (hb'.out.mono (by simp))).trans hb2'.out⟩
set_option maxRecDepth 100000 in
theorem rexp_any (b : Nat) (hb : b < 18446744073709551616) (w : World) :
    Calls Tryd.prog 103 #[.int .u64 (b : Int)] w fun e w' => e = .returned (.int .i64 (spX b : Nat)) ∧ w = w' := by
  have e : (spX b : Int) = (b : Int) % 9223372036854775808 / 4503599627370496 := by unfold spX; omega
  have e' := Lib.hid e
  clear e hb
  go_enter Tryd.func103, Tryd.ntmps103
  go_wp2
  go_ret
  exact ⟨ret_int (by rw [e'.out]), rfl⟩
set_option maxRecDepth 100000 in
theorem rfrac_any (b : Nat) (hb : b < 18446744073709551616) (w : World) :
    Calls Tryd.prog 104 #[.int .u64 (b : Int)] w fun e w' => e = .returned (.int .u64 (spF b : Nat)) ∧ w = w' := by
  have e : (spF b : Int) = (b : Int) % 4503599627370496 := by unfold spF; omega
  have e' := Lib.hid e
  clear e hb
  go_enter Tryd.func104, Tryd.ntmps104
  go_wp2
  go_ret
  exact ⟨ret_int (by rw [e'.out]), rfl⟩
set_option maxRecDepth 100000 in
theorem rclass_any (b : Nat) (hb : b < 18446744073709551616) (w : World) :
    Calls Tryd.prog 100 #[.int .u64 (b : Int)] w fun e w' => e = .returned (.int .u8 (clsF b : Nat)) ∧ w = w' := by
  have hs := Lib.hid (fun w => rexp_any b hb w)
  have hs2 := Lib.hid (fun w => rfrac_any b hb w)
  have hX := spX_lt b
  unfold clsF
  generalize spX b = X at *
  generalize spF b = F at *
  generalize hC : (if X = 0 ∧ F = 0 then 1 else if X = 0 then 2 else if X = 2047 ∧ F = 0 then 4 else if X = 2047 then 5 else 3) = C
  have hC' := Lib.hid hC
  have hX' := Lib.hid hX
  clear hb hC hX
  go_enter Tryd.func100, Tryd.ntmps100
  go_wp2_with (first | (go_at_call 103; (with_reducible refine (hs.out _).mono ?_); rintro e w' ⟨rfl, rfl⟩) | (go_at_call 104; (with_reducible refine (hs2.out _).mono ?_); rintro e w' ⟨rfl, rfl⟩))
  all_goals
    go_ret
    refine ⟨ret_int ?_, rfl⟩
    have hC := hC'.out
    have hX := hX'.out
    clear hX' hC' hs hs2
    try simp only [beq_iff_eq, beq_eq_false_iff_ne] at *
    (repeat' split at hC) <;> omega
theorem rcanon_any (b : Nat) (hb : b < 18446744073709551616) (w : World) :
    Calls Tryd.prog 93 #[.int .u64 (b : Int)] w fun e w' => e = .returned (.int .u64 (canF b : Nat)) ∧ w = w' := by
  have hs := Lib.hid (fun w => rclass_any b hb w)
  unfold canF
  generalize clsF b = X at *
  generalize hC : (if X = 5 then 9221120237041090560 else b) = C
  have hC' := Lib.hid hC
  clear hb hC
  go_enter Tryd.func93, Tryd.ntmps93
  go_wp2_with (go_at_call 100; (with_reducible refine (hs.out _).mono ?_); rintro e w' ⟨rfl, rfl⟩)
  all_goals
    go_ret
    refine ⟨ret_int ?_, rfl⟩
    have hC := hC'.out
    clear hC' hs
    try simp only [beq_iff_eq, beq_eq_false_iff_ne] at *
    (repeat' split at hC) <;> omega
end Go.Proofs.YtegffpjhdodldaaDoor.wir.val

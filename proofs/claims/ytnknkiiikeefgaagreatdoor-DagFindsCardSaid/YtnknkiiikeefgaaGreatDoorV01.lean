/- The maths of package value: the parts of 64 bits, classes, places. Contracts of package value and of its reference: the parts of a float, classes, values of one part. Contracts of package value and of its reference: which values are valid. -/
import Derived.Test.YtnknkiiikeefgaaGreatDoorW01
import Derived.Test.YtnknkiiikeefgaaGreatDoorLibB
import Derived.Laws.Bits64
import Derived.Test.YtnknkiiikeefgaaGreatDoorW02
import Derived.Test.YtnknkiiikeefgaaGreatDoorShelfV
import Derived.ProofKit
import Derived.Deep.Cut
import Derived.Deep.DeepCutAuto
import Derived.BigQuiet
namespace Go.Proofs.YtnknkiiikeefgaaGreatDoor.wir.val
open Go.RowKit Go.YtnknkiiikeefgaaGreatDoor
set_option linter.unusedVariables false
def spX (b : Nat) : Nat := b / 4503599627370496 % 2048
def spF (b : Nat) : Nat := b % 4503599627370496
def clsF (b : Nat) : Nat := if spX b = 0 ∧ spF b = 0 then 1 else if spX b = 0 then 2 else if spX b = 2047 ∧ spF b = 0 then 4 else if spX b = 2047 then 5 else 3
def canF (b : Nat) : Nat := if clsF b = 5 then 9221120237041090560 else b
theorem spX_lt (b : Nat) : spX b < 2048 := Nat.mod_lt _ (by omega)
theorem spF_lt (b : Nat) : spF b < 4503599627370496 := Nat.mod_lt _ (by omega)
theorem canF_lt (b : Nat) (h : b < 18446744073709551616) : canF b < 18446744073709551616 := by unfold canF; split <;> omega
theorem clsF_none : clsF 9221120237041090560 = 5 := by decide +kernel
theorem canF_canF (b : Nat) : canF (canF b) = canF b := by
  unfold canF
  by_cases h : clsF b = 5
  · rw [if_pos h, if_pos clsF_none]
  · rw [if_neg h, if_neg h]
theorem bits_and_nat (a b : Nat) (ha : a < 18446744073709551616) (hb : b < 18446744073709551616) : bits .and .u64 (a : Int) (b : Int) = ((a &&& b : Nat) : Int) := by
  have hx : a &&& b < 2 ^ 64 := Nat.and_lt_two_pow _ (by omega)
  have h1 : (BitVec.ofInt 64 (a : Int)).toNat = a := by
    rw [BitVec.ofInt_natCast, BitVec.toNat_ofNat]; exact Nat.mod_eq_of_lt (by omega)
  have h2 : (BitVec.ofInt 64 (b : Int)).toNat = b := by
    rw [BitVec.ofInt_natCast, BitVec.toNat_ofNat]; exact Nat.mod_eq_of_lt (by omega)
  show IntKind.u64.wrap ((BitVec.ofInt 64 (a : Int) &&& BitVec.ofInt 64 (b : Int)).toNat : Int) = _
  rw [BitVec.toNat_and, h1, h2, IntKind.wrap_u64]
  omega
theorem bits_or_nat (a b : Nat) (ha : a < 18446744073709551616) (hb : b < 18446744073709551616) : bits .or .u64 (a : Int) (b : Int) = ((a ||| b : Nat) : Int) := by
  have hx : a ||| b < 2 ^ 64 := Nat.or_lt_two_pow (by omega) (by omega)
  have h1 : (BitVec.ofInt 64 (a : Int)).toNat = a := by
    rw [BitVec.ofInt_natCast, BitVec.toNat_ofNat]; exact Nat.mod_eq_of_lt (by omega)
  have h2 : (BitVec.ofInt 64 (b : Int)).toNat = b := by
    rw [BitVec.ofInt_natCast, BitVec.toNat_ofNat]; exact Nat.mod_eq_of_lt (by omega)
  show IntKind.u64.wrap ((BitVec.ofInt 64 (a : Int) ||| BitVec.ofInt 64 (b : Int)).toNat : Int) = _
  rw [BitVec.toNat_or, h1, h2, IntKind.wrap_u64]
  omega
theorem and_2047 (a : Nat) (ha : a < 18446744073709551616) : bits .and .u64 (a : Int) 2047 = ((a % 2048 : Nat) : Int) := by
  have h := bits_and_nat a 2047 ha (by omega)
  rw [show (2047 : Nat) = 2 ^ 11 - 1 by decide, Nat.and_two_pow_sub_one_eq_mod] at h
  exact h
theorem and_F (a : Nat) (ha : a < 18446744073709551616) : bits .and .u64 (a : Int) 4503599627370495 = ((a % 4503599627370496 : Nat) : Int) := by
  have h := bits_and_nat a 4503599627370495 ha (by omega)
  rw [show (4503599627370495 : Nat) = 2 ^ 52 - 1 by decide, Nat.and_two_pow_sub_one_eq_mod] at h
  exact h
theorem or_high (k a b : Nat) (hb : b < 2 ^ k) (h : 2 ^ k * a + b < 18446744073709551616) : bits .or .u64 ((2 ^ k * a : Nat) : Int) (b : Int) = ((2 ^ k * a + b : Nat) : Int) := by
  rw [bits_or_nat _ _ (by omega) (by omega), Nat.two_pow_add_eq_or_of_lt hb]
end Go.Proofs.YtnknkiiikeefgaaGreatDoor.wir.val
namespace Go.Proofs.YtnknkiiikeefgaaGreatDoor.wir.val
open Go.RowKit Go.YtnknkiiikeefgaaGreatDoor
set_option linter.unusedVariables false
theorem split_any (b : Nat) (hb : b < 18446744073709551616) (w : World) :
    Calls Tryz.prog 215 #[.int .u64 (b : Int)] w fun e w' => e = .returned (.tuple #[.int .u64 (spX b : Nat), .int .u64 (spF b : Nat)]) ∧ w = w' := by
  have h1 := and_2047 (b / 4503599627370496) (by omega)
  have h2 := and_F b hb
  rw [show ((b / 4503599627370496 : Nat) : Int) = (b : Int) / 4503599627370496 from by omega] at h1
  go_enter Tryz.func215, Tryz.ntmps215
  go_wp2
  go_ret2
  exact ⟨by simp [spX, spF], rfl⟩
theorem class_any (b : Nat) (hb : b < 18446744073709551616) (w : World) :
    Calls Tryz.prog 210 #[.int .u64 (b : Int)] w fun e w' => e = .returned (.int .u8 (clsF b : Nat)) ∧ w = w' := by
  have hs := Lib.hid (fun w => split_any b hb w)
  have hX := spX_lt b
  unfold clsF
  generalize spX b = X at *
  generalize spF b = F at *
  generalize hC : (if X = 0 ∧ F = 0 then 1 else if X = 0 then 2 else if X = 2047 ∧ F = 0 then 4 else if X = 2047 then 5 else 3) = C
  have hC' := Lib.hid hC
  clear hb hC
  go_enter Tryz.func210, Tryz.ntmps210
  go_wp2_with (go_at_call 215; (with_reducible refine (hs.out _).mono ?_); rintro e w' ⟨rfl, rfl⟩)
  all_goals
    go_ret
    refine ⟨ret_int ?_, rfl⟩
    have hC := hC'.out
    clear hC' hs
    try simp only [beq_iff_eq, beq_eq_false_iff_ne] at *
    (repeat' split at hC) <;> omega
theorem canon_any (b : Nat) (hb : b < 18446744073709551616) (w : World) :
    Calls Tryz.prog 197 #[.int .u64 (b : Int)] w fun e w' => e = .returned (.int .u64 (canF b : Nat)) ∧ w = w' := by
  have hs := Lib.hid (fun w => class_any b hb w)
  unfold canF
  generalize clsF b = X at *
  generalize hC : (if X = 5 then 9221120237041090560 else b) = C
  have hC' := Lib.hid hC
  clear hb hC
  go_enter Tryz.func197, Tryz.ntmps197
  go_wp2_with (go_at_call 210; (with_reducible refine (hs.out _).mono ?_); rintro e w' ⟨rfl, rfl⟩)
  all_goals
    go_ret
    refine ⟨ret_int ?_, rfl⟩
    have hC := hC'.out
    clear hC' hs
    try simp only [beq_iff_eq, beq_eq_false_iff_ne] at *
    (repeat' split at hC) <;> omega
theorem storeNew {P : Program} {ops : Array Oper} {rest : List Oper} {o : Oper} {a : Act} {Q : Exit → Act → World → Prop} {old : Array Value} (w1 : World) (hgd : o.guard = none) (ty : TypeId) (x y : Operand) (ho : o.op = .store ty x y)
    (cells : Array Value) (t : TypeId) (hx : a.eval x = .pointer (some ⟨w1.heap.size, 0, none⟩)) (hy : a.eval y = .agg cells)
    (hi : (P.info? ty).map (·.size) = some cells.size) (hold : old.size = cells.size) (h1 : cells.all (·.oneCell') = true)
    (h : ∀ wx, wx.heap[w1.heap.size]? = some (.cells cells t (0, 0)) → Below w1.heap.size w1 wx → wpList P ops Q rest (a.put o.dst undef) wx) :
    wpList P ops Q (o :: rest) a (w1.alloc (.cells old t)) := by
  have hg := heap_alloc_new w1 (.cells old t)
  refine wpList_store_row hgd ty x y ho w1.heap.size cells hx hy t old hg hi hold h1 (h _ (setRow_heap _ _ _ _ _ _ hg) ?_)
  exact below_setRow' ((Below.refl _ _).alloc (Nat.le_refl _) _) (Nat.le_refl _) _
abbrev vA (k n : Int) (b : Nat) (s : ByteArray) : Value := .agg #[.int .u8 k, .int .i64 n, .int .u64 (b : Int), .string s]
theorem val_one (k n b : Int) (s : ByteArray) : (#[Value.int .u8 k, .int .i64 n, .int .u64 b, .string s] : Array Value).all (·.oneCell') = true := by simp [Value.oneCell']
theorem info_val : (Tryz.prog.info? 29).map (·.size) = some 4 := by kernel_rfl
/-- A row in a later world. -/
theorem rowB {B : Nat} {w w' : World} {g : Nat} {b : Obj} (h : w.heap[g]? = some b) (hb : Below B w w') (hg : g < B) : w'.heap[g]? = some b := by
  rw [hb.block g hg]; exact h
theorem quiet_cell {P : Program} {C : World → Prop} {o : Oper} {a : Act} (ty : TypeId) (x : Operand) (ho : o.op = .load ty x) (g k : Nat) (hx : a.eval x = .pointer (some ⟨g, k, none⟩)) (v : Value)
    (hC : ∀ w, C w → w.cell? ⟨g, k, none⟩ = some v) (hu : ∀ w, (isAgg ty).run P w = .ok false w) : ∀ w, C w → o.quietAt P a C w v := by
  intro w hw
  have hc := hC w hw
  unfold Oper.quietAt execOp
  generalize a.eval = ev at *
  simp only [ho]
  simp [go_sem, hx, hu, hc]
set_option maxRecDepth 100000 in
theorem number_val (n : Int) (w : World) :
    Calls Tryz.prog 172 #[.int .i64 n] w fun e w' => e = .returned (vA 1 n 0 ⟨#[]⟩) ∧ Below w.heap.size w w' := by
  go_enter Tryz.func172, Tryz.ntmps172
  go_wp2
  exact bodyPost_ret (results_cell_row rfl _ _ w.heap.size 29 _ _ _ rfl (heap_alloc_new w _) Tryz.underlying29 rfl info_val) rfl ⟨rfl, (Below.refl _ _).alloc (Nat.le_refl _) _⟩
set_option maxRecDepth 100000 in
theorem float_val (b : Nat) (hb : b < 18446744073709551616) (w : World) :
    Calls Tryz.prog 173 #[.int .u64 (b : Int)] w fun e w' => e = .returned (vA 2 0 (canF b) ⟨#[]⟩) ∧ Below w.heap.size w w' := by
  have hs := Lib.hid (fun w => canon_any b hb w)
  generalize canF b = C at *
  clear hb
  go_enter Tryz.func173, Tryz.ntmps173
  go_wp2_with (go_at_call 197; (with_reducible refine (hs.out _).mono ?_); rintro e w' ⟨rfl, rfl⟩)
  exact bodyPost_ret (results_cell_row rfl _ _ w.heap.size 29 _ _ _ rfl (heap_alloc_new w _) Tryz.underlying29 rfl info_val) rfl ⟨rfl, (Below.refl _ _).alloc (Nat.le_refl _) _⟩
/-- The bytes of a string. -/
def sI (s : ByteArray) : List Int := s.data.toList.map fun c => (c.toNat : Int)
theorem sI_length (s : ByteArray) : (sI s).length = s.size := by unfold sI; rw [List.length_map]; rfl
theorem sI_get (s : ByteArray) (i : Nat) (h : i < s.size) : ((s[i].toNat : Nat) : Int) = ith (sI s) i := by
  obtain ⟨⟨l⟩⟩ := s
  have hl : i < l.length := h
  simp only [sI, ith]
  rw [List.getElem?_map, List.getElem?_eq_getElem hl]
  rfl
def okB (l : List Int) : Bool := l.all fun c => decide (32 ≤ c) && decide (c ≤ 126)
theorem okB_step (l : List Int) (k : Nat) (h : okB (l.take k) = true) (hk : k < l.length) (h1 : 32 ≤ ith l k) (h2 : ith l k ≤ 126) : okB (l.take (k + 1)) = true := by
  rw [take_succ_ith l k hk]
  unfold okB at *
  rw [List.all_append, h]
  simp [h1, h2]
theorem okB_not (l : List Int) (k : Nat) (hk : k < l.length) (h : ith l k < 32 ∨ 126 < ith l k) : okB l = false := by
  unfold okB
  rw [List.all_eq_false]
  refine ⟨ith l k, ?_, ?_⟩
  · unfold ith
    rw [List.getElem?_eq_getElem hk]
    exact List.getElem_mem hk
  · simp; omega
def intOf : Value → Int
  | .int _ n => n
  | _ => 0
theorem allowed_any (s : ByteArray) (hs : s.size ≤ 1000000) (w : World) :
    Calls Tryz.prog 198 #[.string s] w fun e w' => e = .returned (.bool (okB (sI s))) ∧ w = w' := by
  have hi := Lib.hid (sI_get s)
  have hl := sI_length s
  generalize hL : sI s = L at *
  clear hL
  go_enter Tryz.func198, Tryz.ntmps198
  go_wp2
  go_loop [6] (fun i => ∃ k : Nat, k ≤ s.size ∧ i = .int .i64 (k : Int) ∧ okB (L.take k) = true) (fun i => s.size - (intOf i).toNat)
  case atStart => exact ⟨0, Nat.zero_le _, rfl, rfl⟩
  case round =>
    obtain ⟨k, hk, rfl, ho⟩ := hrel
    by_cases hlt : k < s.size
    · have hc := hi.out k hlt
      go_wp2
      case roundEnd => exact ⟨⟨k + 1, by omega, rfl, okB_step L k ho (by omega) (by omega) (by omega)⟩, by simp [intOf]; omega⟩
      all_goals
        go_ret
        exact ⟨ret_bool (okB_not L k (by omega) (by omega)).symm, rfl⟩
    · obtain rfl : k = s.size := by omega
      have ho' : okB L = true := by rw [← hl, List.take_length] at ho; exact ho
      clear hk hlt ho hi
      go_wp2
      go_ret
      first | exact ⟨rfl, rfl⟩ | exact ⟨ret_bool ho'.symm, rfl⟩
theorem printable_any (s : ByteArray) (hs : s.size ≤ 1000000) (w : World) :
    Calls Tryz.prog 200 #[.string s] w fun e w' => e = .returned (.bool (okB (sI s))) ∧ w = w' := by
  have hi := Lib.hid (sI_get s)
  have hl := sI_length s
  generalize hL : sI s = L at *
  clear hL
  go_enter Tryz.func200, Tryz.ntmps200
  go_wp2
  go_loop [3] (fun i => ∃ k : Nat, k ≤ s.size ∧ i = .int .i64 (k : Int) ∧ okB (L.take k) = true) (fun i => s.size - (intOf i).toNat)
  case atStart => exact ⟨0, Nat.zero_le _, rfl, rfl⟩
  case round =>
    obtain ⟨k, hk, rfl, ho⟩ := hrel
    by_cases hlt : k < s.size
    · have hc := hi.out k hlt
      go_wp2
      case roundEnd => exact ⟨⟨k + 1, by omega, rfl, okB_step L k ho (by omega) (by omega) (by omega)⟩, by simp [intOf]; omega⟩
      all_goals
        go_ret
        exact ⟨ret_bool (okB_not L k (by omega) (by omega)).symm, rfl⟩
    · obtain rfl : k = s.size := by omega
      have ho' : okB L = true := by rw [← hl, List.take_length] at ho; exact ho
      clear hk hlt ho hi
      go_wp2
      go_ret
      first | exact ⟨rfl, rfl⟩ | exact ⟨ret_bool ho'.symm, rfl⟩
theorem clone_any (s : ByteArray) (hs : s.size ≤ 1000000) (w : World) :
    Calls Tryz.prog 100 #[.string s] w fun e w' => e = .returned (.string s) ∧ Below w.heap.size w w' := by
  have hc := Lib.hid (fun w => Tryz.stringslite_Clone s w (by omega))
  clear hs
  go_enter Tryz.func100, Tryz.ntmps100
  go_wp2_with (go_at_call 135; (with_reducible refine (hc.out _).mono ?_); rintro e w' ⟨rfl, hb⟩; have hb' := Lib.hid hb; clear hb)
  go_ret
  exact ⟨rfl, hb'.out⟩
/-- What Text answers. -/
def txtE (s : ByteArray) : Int := if 30 < s.size then 4 else if okB (sI s) = true then 0 else 8
def txtV (s : ByteArray) : Value := if txtE s = 0 then vA 3 0 0 s else vA 0 0 0 ⟨#[]⟩
theorem storeOver {P : Program} {ops : Array Oper} {rest : List Oper} {o : Oper} {a : Act} {Q : Exit → Act → World → Prop} (w : World) (g : Nat) (old : Array Value) (hgd : o.guard = none) (ty : TypeId) (x y : Operand) (ho : o.op = .store ty x y)
    (cells : Array Value) (t : TypeId) (hg : w.heap[g]? = some (.cells old t (0, 0))) (hx : a.eval x = .pointer (some ⟨g, 0, none⟩)) (hy : a.eval y = .agg cells)
    (hi : (P.info? ty).map (·.size) = some cells.size) (hold : old.size = cells.size) (h1 : cells.all (·.oneCell') = true)
    (h : ∀ wx, wx.heap[g]? = some (.cells cells t (0, 0)) → Below g w wx → wpList P ops Q rest (a.put o.dst undef) wx) :
    wpList P ops Q (o :: rest) a w := by
  refine wpList_store_row hgd ty x y ho g cells hx hy t old hg hi hold h1 (h _ (setRow_heap _ _ _ _ _ _ hg) ?_)
  exact below_setRow' (Below.refl _ _) (Nat.le_refl _) _
set_option maxRecDepth 100000 in
theorem text_any (s : ByteArray) (hs : s.size ≤ 1000000) (w : World) :
    Calls Tryz.prog 174 #[.string s] w fun e w' => e = .returned (.tuple #[txtV s, .int .i64 (txtE s)]) ∧ Below w.heap.size w w' := by
  have hA := Lib.hid (fun w => allowed_any s hs w)
  have hc := Lib.hid (fun w => clone_any s hs w)
  by_cases h1 : 30 < s.size
  · have e : txtE s = 4 := by unfold txtE; rw [if_pos h1]
    rw [txtV, e, if_neg (by decide)]
    clear hA hc e
    go_enter Tryz.func174, Tryz.ntmps174
    go_wp2
    exact bodyPost_ret (results_row_tmp rfl _ _ w.heap.size 29 _ _ _ rfl (heap_alloc_new w _) Tryz.underlying29 rfl info_val) rfl ⟨rfl, (Below.refl _ _).alloc (Nat.le_refl _) _⟩
  cases ho : okB (sI s)
  · have e : txtE s = 8 := by unfold txtE; rw [if_neg h1, ho]; rfl
    rw [ho] at hA
    rw [txtV, e, if_neg (by decide)]
    clear hc e ho
    go_enter Tryz.func174, Tryz.ntmps174
    go_wp2_with (go_at_call 198; (with_reducible refine (hA.out _).mono ?_); rintro e w' ⟨rfl, rfl⟩)
    exact bodyPost_ret (results_row_tmp rfl _ _ w.heap.size 29 _ _ _ rfl (heap_alloc_new w _) Tryz.underlying29 rfl info_val) rfl ⟨rfl, (Below.refl _ _).alloc (Nat.le_refl _) _⟩
  · have e : txtE s = 0 := by unfold txtE; rw [if_neg h1, ho]; rfl
    rw [ho] at hA
    rw [txtV, e, if_pos rfl]
    clear e ho
    have hrow := Lib.hid (heap_alloc_new w (.cells #[.int .u8 0, .int .i64 0, .int .u64 0, .string ⟨#[]⟩] 29))
    go_enter Tryz.func174, Tryz.ntmps174
    go_wp2_with (first | (go_at_call 198; (with_reducible refine (hA.out _).mono ?_); rintro e w' ⟨rfl, rfl⟩) | (go_at_call 100; (with_reducible refine (hc.out _).mono ?_); rintro e w1 ⟨rfl, hb⟩; have hr1 := rowB hrow.out hb (by simp); have hr1' := Lib.hid hr1; have hb' := Lib.hid hb; clear hb hr1) | (refine storeOver w1 w.heap.size _ rfl 29 _ _ rfl #[.int .u8 3, .int .i64 0, .int .u64 0, .string s] 29 hr1'.out rfl rfl info_val rfl (val_one _ _ _ _) ?_; intro w2 hr2 hb2; have hr2' := Lib.hid hr2; have hb2' := Lib.hid hb2; clear hr2 hb2))
    exact bodyPost_ret (results_row_tmp rfl _ _ w.heap.size 29 _ _ _ rfl hr2'.out Tryz.underlying29 rfl info_val) rfl ⟨rfl, (((Below.refl _ _).alloc (Nat.le_refl _) _).trans (hb'.out.mono (by simp))).trans hb2'.out⟩
set_option maxRecDepth 100000 in
theorem rexp_any (b : Nat) (hb : b < 18446744073709551616) (w : World) :
    Calls Tryz.prog 216 #[.int .u64 (b : Int)] w fun e w' => e = .returned (.int .i64 (spX b : Nat)) ∧ w = w' := by
  have e : (spX b : Int) = (b : Int) % 9223372036854775808 / 4503599627370496 := by unfold spX; omega
  have e' := Lib.hid e
  clear e hb
  go_enter Tryz.func216, Tryz.ntmps216
  go_wp2
  go_ret
  exact ⟨ret_int (by rw [e'.out]), rfl⟩
set_option maxRecDepth 100000 in
theorem rfrac_any (b : Nat) (hb : b < 18446744073709551616) (w : World) :
    Calls Tryz.prog 217 #[.int .u64 (b : Int)] w fun e w' => e = .returned (.int .u64 (spF b : Nat)) ∧ w = w' := by
  have e : (spF b : Int) = (b : Int) % 4503599627370496 := by unfold spF; omega
  have e' := Lib.hid e
  clear e hb
  go_enter Tryz.func217, Tryz.ntmps217
  go_wp2
  go_ret
  exact ⟨ret_int (by rw [e'.out]), rfl⟩
set_option maxRecDepth 100000 in
theorem rclass_any (b : Nat) (hb : b < 18446744073709551616) (w : World) :
    Calls Tryz.prog 211 #[.int .u64 (b : Int)] w fun e w' => e = .returned (.int .u8 (clsF b : Nat)) ∧ w = w' := by
  have hs := Lib.hid (fun w => rexp_any b hb w)
  have hs2 := Lib.hid (fun w => rfrac_any b hb w)
  have hX := spX_lt b
  unfold clsF
  generalize spX b = X at *
  generalize spF b = F at *
  generalize hC : (if X = 0 ∧ F = 0 then 1 else if X = 0 then 2 else if X = 2047 ∧ F = 0 then 4 else if X = 2047 then 5 else 3) = C
  have hC' := Lib.hid hC
  have hX' := Lib.hid hX
  clear hb hC hX
  go_enter Tryz.func211, Tryz.ntmps211
  go_wp2_with (first | (go_at_call 216; (with_reducible refine (hs.out _).mono ?_); rintro e w' ⟨rfl, rfl⟩) | (go_at_call 217; (with_reducible refine (hs2.out _).mono ?_); rintro e w' ⟨rfl, rfl⟩))
  all_goals
    go_ret
    refine ⟨ret_int ?_, rfl⟩
    have hC := hC'.out
    have hX := hX'.out
    clear hX' hC' hs hs2
    try simp only [beq_iff_eq, beq_eq_false_iff_ne] at *
    (repeat' split at hC) <;> omega
theorem rcanon_any (b : Nat) (hb : b < 18446744073709551616) (w : World) :
    Calls Tryz.prog 199 #[.int .u64 (b : Int)] w fun e w' => e = .returned (.int .u64 (canF b : Nat)) ∧ w = w' := by
  have hs := Lib.hid (fun w => rclass_any b hb w)
  unfold canF
  generalize clsF b = X at *
  generalize hC : (if X = 5 then 9221120237041090560 else b) = C
  have hC' := Lib.hid hC
  clear hb hC
  go_enter Tryz.func199, Tryz.ntmps199
  go_wp2_with (go_at_call 211; (with_reducible refine (hs.out _).mono ?_); rintro e w' ⟨rfl, rfl⟩)
  all_goals
    go_ret
    refine ⟨ret_int ?_, rfl⟩
    have hC := hC'.out
    clear hC' hs
    try simp only [beq_iff_eq, beq_eq_false_iff_ne] at *
    (repeat' split at hC) <;> omega
end Go.Proofs.YtnknkiiikeefgaaGreatDoor.wir.val
namespace Go.Proofs.YtnknkiiikeefgaaGreatDoor.wir.val
open Go.RowKit Go.YtnknkiiikeefgaaGreatDoor
set_option linter.unusedVariables false
def validV (k n : Int) (b : Nat) (s : ByteArray) : Bool :=
  if k = 1 then decide (b = 0) && decide (s.size = 0) else if k = 2 then decide (n = 0) && (decide (canF b = b) && decide (s.size = 0)) else if k = 3 then decide (n = 0) && (decide (b = 0) && (decide (s.size ≤ 30) && okB (sI s))) else false
abbrev vC (k n : Int) (b : Nat) (s : ByteArray) : Array Value := #[.int .u8 k, .int .i64 n, .int .u64 (b : Int), .string s]
theorem cellsV {w : World} {g : Nat} {k n : Int} {b : Nat} {s : ByteArray} (h : w.heap[g]? = some (.cells (vC k n b s) 29 (0, 0))) :
    w.cell? ⟨g, 0, none⟩ = some (.int .u8 k) ∧ w.cell? ⟨g, 1, none⟩ = some (.int .i64 n) ∧ w.cell? ⟨g, 2, none⟩ = some (.int .u64 (b : Int)) ∧ w.cell? ⟨g, 3, none⟩ = some (.string s) :=
  ⟨cell_of_row _ _ _ _ _ _ h, cell_of_row _ _ _ _ _ _ h, cell_of_row _ _ _ _ _ _ h, cell_of_row _ _ _ _ _ _ h⟩
theorem str_empty (s : ByteArray) : (s.toList == ([] : List UInt8)) = decide (s.size = 0) := by
  rw [ByteArray.toList_eq]
  obtain ⟨⟨l⟩⟩ := s
  cases l <;> rfl
theorem bytes_eq (s t : ByteArray) : (s.toList == t.toList) = decide (s = t) := by
  rw [ByteArray.toList_eq, ByteArray.toList_eq]
  obtain ⟨⟨l⟩⟩ := s
  obtain ⟨⟨m⟩⟩ := t
  simp only [ByteArray.mk.injEq, Array.mk.injEq]
  exact Bool.eq_iff_iff.2 (by simp)
def eqB (k n : Int) (b : Nat) (s : ByteArray) (k' n' : Int) (b' : Nat) (s' : ByteArray) : Bool := decide (k = k') && (decide (n = n') && (decide (b = b') && decide (s = s')))
set_option maxRecDepth 100000 in
theorem eqlV (k n : Int) (b : Nat) (s : ByteArray) (k' n' : Int) (b' : Nat) (s' : ByteArray) (w : World) :
    (binOp .eql 29 (vA k n b s) (vA k' n' b' s')).run Tryz.prog w = .ok (.bool (eqB k n b s k' n' b' s')) w := by
  rw [run_eql_struct]
  have h0 : Tryz.prog.underlying 29 = some (.struct (Tryz.prog.fieldsOf 29)) := by kernel_rfl
  have h1 : Tryz.prog.stoodInHeld 29 = false := by kernel_rfl
  rw [run_equalIn_agg _ _ _ _ _ h0 h1]
  have hb := bytes_eq s s'
  simp [go_sem, hb]
  clear hb h0 h1
  unfold eqB
  split
  · split
    · split
      · split <;> first | (simp_all; done) | (have := ‹(b : Int) = (b' : Int)›; simp_all; done) | (simp_all; omega)
      · simp_all <;> omega
    · simp_all
  · simp_all
theorem qa_eqlV {ops : Array Oper} {C : World → Prop} {a : Act} {o : Oper} (x y : Operand) (k n : Int) (b : Nat) (s : ByteArray) (k' n' : Int) (b' : Nat) (s' : ByteArray) (B : Bool) (ho : o.op = .binOp .eql 29 x y 29)
    (hx : a.eval x = vA k n b s) (hy : a.eval y = vA k' n' b' s') (h : eqB k n b s k' n' b' s' = B) : ∀ w, C w → o.quietAt Tryz.prog a C w (.bool B) := by
  intro w _; subst h; refine qa_ok ?_
  have h0 : Tryz.prog.eqGuardType Tryz.prog.depth 29 = false := by kernel_rfl
  have hg := run_eqGuard_agg (P := Tryz.prog) w .eql 29 x y #[.int .u8 k, .int .i64 n, .int .u64 (b : Int), .string s] #[.int .u8 k', .int .i64 n', .int .u64 (b' : Int), .string s'] h0
  have he := eqlV k n b s k' n' b' s' w
  unfold execOp
  generalize a.eval = ev at *
  simp only [ho]
  simp only [hx, hy] at *
  have hb := bytes_eq s s'
  simp [go_sem, hb]
  clear hb h0 hx hy hg he ho
  unfold eqB
  split
  · split
    · split
      · split <;> first | (simp_all; done) | (have := ‹(b : Int) = (b' : Int)›; simp_all; done) | (simp_all; omega)
      · simp_all <;> omega
    · simp_all
  · simp_all
set_option maxRecDepth 100000 in
theorem valid_any (k n : Int) (b : Nat) (s : ByteArray) (hk : 0 ≤ k ∧ k < 256) (hb : b < 18446744073709551616) (hs : s.size ≤ 1000000) (w : World) :
    Calls Tryz.prog 141 #[vA k n b s] w fun e w' => e = .returned (.bool (validV k n b s)) ∧ Below w.heap.size w w' := by
  have hrow := Lib.hid (heap_alloc_new w (.cells (vC k n b s) 29))
  have hb1 := Lib.hid ((Below.refl w.heap.size w).alloc (Nat.le_refl _) (.cells (vC k n b s) 29))
  have hse := str_empty s
  by_cases h1 : k = 1
  · subst h1
    have e : validV 1 n b s = eqB 1 n b s 1 n 0 ⟨#[]⟩ := by
      unfold validV eqB
      rw [if_pos rfl, ← bytes_eq s ⟨#[]⟩, show (⟨#[]⟩ : ByteArray).toList = [] from by rw [ByteArray.toList_eq], hse]
      simp
    have e' := Lib.hid e
    have hN := Lib.hid (fun w => number_val n w)
    clear hb e hse
    clear hk hs
    go_enter Tryz.func141, Tryz.ntmps141
    go_upto_region 3 with fail
    have hg1 : w.heap.size < (w.alloc (.cells (vC 1 n b s) 29)).heap.size := by simp
    generalize hw1 : w.alloc (.cells (vC 1 n b s) 29) = w1 at *
    have hg1' := Lib.hid hg1
    clear hw1 hg1
    refine wp_region_quiet (C := fun w' => Below w1.heap.size w1 w') (by kernel_rfl) (by kernel_rfl) ((Below.refl _ _).drew) ?_
    simp only []
    repeat (first | (refine wpq _ rfl (quiet_row 29 _ rfl w.heap.size rfl 29 (vC 1 n b s) (0, 0) _ (fun w h => rowB hrow.out h hg1'.out) Tryz.underlying29 rfl info_val) rfl (fun K hK => ?_); go_simp; refine hK _ ?_; clear hK K)
                  | (refine wpq _ rfl (quiet_cell 2 _ rfl w.heap.size 1 rfl (.int .i64 n) (fun w h => (cellsV (rowB hrow.out h hg1'.out)).2.1) Tryz.isAgg2) rfl (fun K hK => ?_); go_simp; refine hK _ ?_; clear hK K)
                  | (refine wpq (vA 1 n 0 ⟨#[]⟩) rfl (qa_call1 (.int .i64 n) rfl Tryz.func172 (by kernel_rfl) rfl rfl rfl (fun w h => (hN.out w).mono fun e w' ⟨he, hb⟩ => ⟨he, h.trans (hb.mono h.size)⟩)) rfl (fun K hK => ?_); go_simp; refine hK _ ?_; clear hK K)
                  | (refine wpq (.bool (eqB 1 n b s 1 n 0 ⟨#[]⟩)) rfl (qa_eqlV (ops := #[]) _ _ 1 n b s 1 n 0 ⟨#[]⟩ _ rfl rfl rfl rfl) rfl (fun K hK => ?_); go_simp; refine hK _ ?_; clear hK K)
                  | (go_big_quiet_want; go_big_quiet_op; first | go_big_quiet_on | (refine ⟨_, fun _ _ => rfl, ?_⟩; go_big_quiet_on)))
    refine wpQuiet_nil ?_
    intro w2 h2
    have h2' := Lib.hid h2
    clear h2
    go_wp2
    go_ret
    exact ⟨ret_bool e'.out.symm, hb1.out.trans (h2'.out.mono (Nat.le_of_lt hg1'.out))⟩
  by_cases h2 : k = 2
  · subst h2
    have e : validV 2 n b s = eqB 2 n b s 2 0 (canF b) ⟨#[]⟩ := by
      unfold validV eqB
      rw [if_neg (by decide), if_pos rfl, ← bytes_eq s ⟨#[]⟩, show (⟨#[]⟩ : ByteArray).toList = [] from by rw [ByteArray.toList_eq], hse, show decide (b = canF b) = decide (canF b = b) from Bool.eq_iff_iff.2 (by simp; exact eq_comm)]
      simp
    have e' := Lib.hid e
    have hN := Lib.hid (fun w => float_val b hb w)
    generalize canF b = D at *
    clear hb e hse h1
    clear hk hs
    go_enter Tryz.func141, Tryz.ntmps141
    go_upto_region 5 with fail
    have hg1 : w.heap.size < (w.alloc (.cells (vC 2 n b s) 29)).heap.size := by simp
    generalize hw1 : w.alloc (.cells (vC 2 n b s) 29) = w1 at *
    have hg1' := Lib.hid hg1
    clear hw1 hg1
    refine wp_region_quiet (C := fun w' => Below w1.heap.size w1 w') (by kernel_rfl) (by kernel_rfl) ((Below.refl _ _).drew) ?_
    simp only []
    repeat (first | (refine wpq _ rfl (quiet_row 29 _ rfl w.heap.size rfl 29 (vC 2 n b s) (0, 0) _ (fun w h => rowB hrow.out h hg1'.out) Tryz.underlying29 rfl info_val) rfl (fun K hK => ?_); go_simp; refine hK _ ?_; clear hK K)
                  | (refine wpq _ rfl (quiet_cell 27 _ rfl w.heap.size 2 rfl (.int .u64 (b : Int)) (fun w h => (cellsV (rowB hrow.out h hg1'.out)).2.2.1) Tryz.isAgg27) rfl (fun K hK => ?_); go_simp; refine hK _ ?_; clear hK K)
                  | (refine wpq (vA 2 0 D ⟨#[]⟩) rfl (qa_call1 (.int .u64 (b : Int)) rfl Tryz.func173 (by kernel_rfl) rfl rfl rfl (fun w h => (hN.out w).mono fun e w' ⟨he, hb⟩ => ⟨he, h.trans (hb.mono h.size)⟩)) rfl (fun K hK => ?_); go_simp; refine hK _ ?_; clear hK K)
                  | (refine wpq (.bool (eqB 2 n b s 2 0 D ⟨#[]⟩)) rfl (qa_eqlV (ops := #[]) _ _ 2 n b s 2 0 D ⟨#[]⟩ _ rfl rfl rfl rfl) rfl (fun K hK => ?_); go_simp; refine hK _ ?_; clear hK K)
                  | (go_big_quiet_want; go_big_quiet_op; first | go_big_quiet_on | (refine ⟨_, fun _ _ => rfl, ?_⟩; go_big_quiet_on)))
    refine wpQuiet_nil ?_
    intro w2 h2
    have h2' := Lib.hid h2
    clear h2
    go_wp2
    go_ret
    exact ⟨ret_bool e'.out.symm, hb1.out.trans (h2'.out.mono (Nat.le_of_lt hg1'.out))⟩
  by_cases h3 : k = 3
  · subst h3
    have hT := Lib.hid (fun w => text_any s hs w)
    have hz := Lib.hid (fun (w : World) => heap_alloc_new w (.cells (vC 3 n b s) 29))
    unfold txtV at hT
    by_cases ht : txtE s = 0
    · have e : validV 3 n b s = eqB 3 n b s 3 0 0 s := by
        unfold txtE at ht
        unfold validV eqB
        rw [if_neg (by decide), if_neg (by decide), if_pos rfl]
        have h1 : s.size ≤ 30 := by
          rcases Nat.lt_or_ge 30 s.size with h | h
          · rw [if_pos h] at ht; exact absurd ht (by decide)
          · exact h
        rw [if_neg (by omega)] at ht
        have h2 : okB (sI s) = true := by
          cases ho : okB (sI s)
          · rw [ho] at ht; exact absurd ht (by decide)
          · rfl
        simp [h1, h2]
      have e' := Lib.hid e
      rw [if_pos ht, ht] at hT
      clear hb hk hs e hse h1 h2 ht hb1
      go_enter Tryz.func141, Tryz.ntmps141
      go_wp2_with (first | (go_at_call 174; (with_reducible refine (hT.out _).mono ?_); rintro e w2 ⟨rfl, hb2⟩; have hr2 := Lib.hid (rowB hrow.out hb2 (by simp)); have hb2' := Lib.hid (((Below.refl w.heap.size w).alloc (Nat.le_refl _) _).trans (hb2.mono (by simp))); clear hb2; refine Stop.go'' _ ?_))
      refine StopP.go ?_
      clear hrow hz
      have hlt := Lib.hid (Array.getElem?_eq_some_iff.1 hr2.out).1
      have hrow3 := Lib.hid (heap_alloc_new w2 (.cells (vC 3 0 0 s) 29))
      have hr3 := Lib.hid (rowB hr2.out ((Below.refl w2.heap.size w2).alloc (Nat.le_refl _) (.cells (vC 3 0 0 s) 29)) hlt.out)
      have hb3 := Lib.hid (hb2'.out.alloc (Nat.le_of_lt hlt.out) (.cells (vC 3 0 0 s) 29))
      go_wp2_with (first | (refine wpList_load_row_g rfl 29 _ rfl w.heap.size rfl 29 (vC 3 n b s) (0, 0) _ hr3.out Tryz.underlying29 rfl info_val ?_) | (refine wpList_load_row_g rfl 29 _ rfl w2.heap.size rfl 29 (vC 3 0 0 s) (0, 0) _ hrow3.out Tryz.underlying29 rfl info_val ?_))
      all_goals
        go_ret
        refine ⟨ret_bool ?_, hb3.out⟩
        rw [e'.out]
        simp_all [eqB]
    · have e : validV 3 n b s = false := by
        have h2 : ¬ (s.size ≤ 30 ∧ okB (sI s) = true) := fun h => ht (by unfold txtE; rw [if_neg (by omega), if_pos h.2])
        unfold validV
        rw [if_neg (by decide), if_neg (by decide), if_pos rfl]
        by_cases h1 : s.size ≤ 30
        · have h4 : okB (sI s) = false := by
            cases ho : okB (sI s)
            · rfl
            · exact absurd ⟨h1, ho⟩ h2
          simp [h4]
        · simp [h1]
      have e' := Lib.hid e
      rw [if_neg ht] at hT
      have htb : (txtE s == 0) = false := by simpa using ht
      generalize txtE s = E at *
      clear hb hk hs e hse hb1
      go_enter Tryz.func141, Tryz.ntmps141
      go_wp2_with (first | (go_at_call 174; (with_reducible refine (hT.out _).mono ?_); rintro e w2 ⟨rfl, hb2⟩; have hb2' := Lib.hid (((Below.refl w.heap.size w).alloc (Nat.le_refl _) _).trans (hb2.mono (by simp))); clear hb2; refine Stop.go'' _ ?_))
      refine StopP.go ?_
      clear hrow hz
      have hlt := Lib.hid hb2'.out.size
      have hb3 := Lib.hid (hb2'.out.alloc hlt.out (.cells (vC 0 0 0 ⟨#[]⟩) 29))
      go_wp2
      go_ret
      exact ⟨ret_bool e'.out.symm, hb3.out⟩
  · have e : validV k n b s = false := by unfold validV; rw [if_neg h1, if_neg h2, if_neg h3]
    have e' := Lib.hid e
    have k1 : (k == 1) = false := by simpa using h1
    have k2 : (k == 2) = false := by simpa using h2
    have k3 : (k == 3) = false := by simpa using h3
    clear hb hk hs e hse h1 h2 h3
    go_enter Tryz.func141, Tryz.ntmps141
    go_wp2
    go_ret
    exact ⟨ret_bool e'.out.symm, hb1.out⟩
def chkE (k n : Int) (b : Nat) (s : ByteArray) : Int := if validV k n b s = true then 0 else 8
set_option maxRecDepth 100000 in
theorem check_any (k n : Int) (b : Nat) (s : ByteArray) (hk : 0 ≤ k ∧ k < 256) (hb : b < 18446744073709551616) (hs : s.size ≤ 1000000) (w : World) :
    Calls Tryz.prog 118 #[vA k n b s] w fun e w' => e = .returned (.int .i64 (chkE k n b s)) ∧ Below w.heap.size w w' := by
  have hrow := Lib.hid (heap_alloc_new w (.cells (vC k n b s) 29))
  have hb1 := Lib.hid ((Below.refl w.heap.size w).alloc (Nat.le_refl _) (.cells (vC k n b s) 29))
  have hV := Lib.hid (fun w => valid_any k n b s hk hb hs w)
  unfold chkE
  clear hk hb hs
  cases hv : validV k n b s
  all_goals
    rw [hv] at hV
    clear hv
    go_enter Tryz.func118, Tryz.ntmps118
    go_wp2_with (first | (go_at_call 141; (with_reducible refine (hV.out _).mono ?_); rintro e w2 ⟨rfl, hb2⟩; have hb2' := Lib.hid (hb1.out.trans (hb2.mono (by simp))); clear hb2) | (refine wpList_load_row_g rfl 29 _ rfl w.heap.size rfl 29 (vC k n b s) (0, 0) _ hrow.out Tryz.underlying29 rfl info_val ?_))
    go_ret
    exact ⟨rfl, hb2'.out⟩
theorem below_a (w : World) (o : Obj) : Below w.heap.size w (w.alloc o) := (Below.refl _ _).alloc (Nat.le_refl _) o
set_option maxHeartbeats 4000000 in
set_option maxRecDepth 100000 in
theorem rcheck_any (k n : Int) (b : Nat) (s : ByteArray) (hk : 0 ≤ k ∧ k < 256) (hb : b < 18446744073709551616) (hs : s.size ≤ 1000000) (w : World) :
    Calls Tryz.prog 178 #[vA k n b s] w fun e w' => e = .returned (.int .i64 (chkE k n b s)) ∧ Below w.heap.size w w' := by
  have hse := str_empty s
  by_cases h1 : k = 1
  · subst h1
    have e' := Lib.hid (show chkE 1 n b s = if (decide (b = 0) && decide (s.size = 0)) = true then 0 else 8 from rfl)
    generalize chkE 1 n b s = E at *
    clear hb hk hs
    go_enter Tryz.func178, Tryz.ntmps178
    go_wp2
    all_goals
      go_ret
      refine ⟨ret_int ?_, below_a _ _⟩
      rw [e'.out]
      simp_all
  by_cases h2 : k = 2
  · subst h2
    have hC := Lib.hid (fun w => rcanon_any b hb w)
    have e' := Lib.hid (show chkE 2 n b s = if (decide (n = 0) && (decide (canF b = b) && decide (s.size = 0))) = true then 0 else 8 from rfl)
    generalize chkE 2 n b s = E at *
    generalize canF b = D at *
    clear hb hk hs h1
    by_cases hn : n = 0 <;> by_cases hz : s.size = 0 <;> by_cases hD : D = b
    all_goals
      simp only [hz, decide_true, decide_false] at hse
      have e2 := e'.out
      clear e'
      simp only [hz, hn, hD, decide_true, decide_false, Bool.and_true, Bool.and_false, if_true, Bool.false_eq_true, if_false] at e2
      have e3 := Lib.hid e2
      clear e2
      have hDb : ((D : Int) == (b : Int)) = decide (D = b) := Bool.eq_iff_iff.2 (by simp; omega)
      try simp only [hD, decide_true, decide_false] at hDb
      have hn2 := Lib.hid hn
      go_enter Tryz.func178, Tryz.ntmps178
      go_wp2
      go_quiet ((go_at_call 199; exact Calls.quiet_of_same ((hC.out _).mono fun e w' ⟨he, hw⟩ => ⟨he, hw.symm⟩)))
      go_wp2
      go_ret
      exact ⟨ret_int e3.out.symm, ((Draws.refl _).drewN _).below (below_a _ _)⟩
  by_cases h3 : k = 3
  · subst h3
    have hC := Lib.hid (fun w => printable_any s hs w)
    have e' := Lib.hid (show chkE 3 n b s = if (decide (n = 0) && (decide (b = 0) && (decide (s.size ≤ 30) && okB (sI s)))) = true then 0 else 8 from rfl)
    generalize chkE 3 n b s = E at *
    clear hb hk hs h1 h2 hse
    cases okB (sI s)
    all_goals
      go_enter Tryz.func178, Tryz.ntmps178
      go_wp2_with (go_at_call 200; (with_reducible refine (hC.out _).mono ?_); rintro e w2 ⟨rfl, rfl⟩)
      all_goals
        go_ret
        refine ⟨ret_int ?_, below_a _ _⟩
        rw [e'.out]
        simp_all <;> first | omega | (intro h; omega)
  · have e' := Lib.hid (show chkE k n b s = 8 by unfold chkE validV; rw [if_neg h1, if_neg h2, if_neg h3]; rfl)
    have k1 : (k == 1) = false := by simpa using h1
    have k2 : (k == 2) = false := by simpa using h2
    have k3 : (k == 3) = false := by simpa using h3
    clear hb hk hs h1 h2 h3
    go_enter Tryz.func178, Tryz.ntmps178
    go_wp2
    go_ret
    exact ⟨ret_int e'.out.symm, below_a _ _⟩
end Go.Proofs.YtnknkiiikeefgaaGreatDoor.wir.val

/- Layer 6: keys and acts: contracts of package op and of its reference. Layer 6: acts: contracts of package op and of its reference. Layer 6: acts are checked: contracts of package op and of its reference. -/
import Derived.Test.YtnknkiiikeefgaaGreatDoorV01
import Derived.Test.YtnknkiiikeefgaaGreatDoorV07
import Derived.Deep.MidRow
namespace Go.Proofs.YtnknkiiikeefgaaGreatDoor.wir.val
open Go.RowKit Go.YtnknkiiikeefgaaGreatDoor
set_option linter.unusedVariables false
def okK (l : List Int) : Bool := l.all fun c => decide (33 ≤ c) && decide (c ≤ 126)
theorem okK_step (l : List Int) (k : Nat) (h : okK (l.take k) = true) (hk : k < l.length) (h1 : 33 ≤ ith l k) (h2 : ith l k ≤ 126) : okK (l.take (k + 1)) = true := by
  rw [take_succ_ith l k hk]
  unfold okK at *
  rw [List.all_append, h]
  simp [h1, h2]
theorem okK_not (l : List Int) (k : Nat) (hk : k < l.length) (h : ith l k < 33 ∨ 126 < ith l k) : okK l = false := by
  unfold okK
  rw [List.all_eq_false]
  refine ⟨ith l k, ?_, ?_⟩
  · unfold ith
    rw [List.getElem?_eq_getElem hk]
    exact List.getElem_mem hk
  · simp; omega
/-- A key. -/
def keyB (s : ByteArray) : Bool := decide (1 ≤ s.size) && (decide (s.size ≤ 20) && okK (sI s))
theorem keyB_short {s : ByteArray} (h : s.size < 1) : keyB s = false := by
  unfold keyB; rw [decide_eq_false (by omega)]; rfl
theorem keyB_long {s : ByteArray} (h : 20 < s.size) : keyB s = false := by
  unfold keyB; rw [decide_eq_false (show ¬ s.size ≤ 20 by omega), Bool.false_and, Bool.and_false]
theorem keyB_mid {s : ByteArray} (h1 : 1 ≤ s.size) (h2 : s.size ≤ 20) : keyB s = okK (sI s) := by
  unfold keyB; rw [decide_eq_true h1, decide_eq_true h2, Bool.true_and, Bool.true_and]
theorem key_any (s : ByteArray) (hs : s.size ≤ 1000000) (w : World) :
    Calls Tryz.prog 117 #[.string s] w fun e w' => e = .returned (.bool (keyB s)) ∧ w = w' := by
  by_cases h1 : s.size < 1
  · rw [keyB_short h1]
    go_enter Tryz.func117, Tryz.ntmps117
    go_wp2
    go_ret
    exact ⟨rfl, rfl⟩
  by_cases h2 : 20 < s.size
  · rw [keyB_long h2]
    go_enter Tryz.func117, Tryz.ntmps117
    go_wp2
    go_ret
    exact ⟨rfl, rfl⟩
  rw [keyB_mid (by omega) (by omega)]
  have hi := Lib.hid (sI_get s)
  have hl := sI_length s
  generalize hL : sI s = L at *
  clear hL
  go_enter Tryz.func117, Tryz.ntmps117
  go_wp2
  go_loop [14] (fun i => ∃ k : Nat, k ≤ s.size ∧ i = .int .i64 (k : Int) ∧ okK (L.take k) = true) (fun i => s.size - (intOf i).toNat)
  case atStart => exact ⟨0, Nat.zero_le _, rfl, rfl⟩
  case round =>
    obtain ⟨k, hk, rfl, ho⟩ := hrel
    by_cases hlt : k < s.size
    · have hc := hi.out k hlt
      go_wp2
      case roundEnd => exact ⟨⟨k + 1, by omega, rfl, okK_step L k ho (by omega) (by omega) (by omega)⟩, by simp [intOf]; omega⟩
      all_goals
        go_ret
        exact ⟨ret_bool (okK_not L k (by omega) (by omega)).symm, rfl⟩
    · obtain rfl : k = s.size := by omega
      have ho' : okK L = true := by rw [← hl, List.take_length] at ho; exact ho
      clear hk hlt ho hi
      go_wp2
      go_ret
      first | exact ⟨rfl, rfl⟩ | exact ⟨ret_bool ho'.symm, rfl⟩
theorem name_any (s : ByteArray) (hs : s.size ≤ 1000000) (w : World) :
    Calls Tryz.prog 177 #[.string s] w fun e w' => e = .returned (.bool (keyB s)) ∧ w = w' := by
  by_cases h1 : s.size < 1
  · rw [keyB_short h1]
    go_enter Tryz.func177, Tryz.ntmps177
    go_wp2
    go_ret
    exact ⟨rfl, rfl⟩
  by_cases h2 : 20 < s.size
  · rw [keyB_long h2]
    go_enter Tryz.func177, Tryz.ntmps177
    go_wp2
    go_ret
    exact ⟨rfl, rfl⟩
  rw [keyB_mid (by omega) (by omega)]
  have hi := Lib.hid (sI_get s)
  have hl := sI_length s
  generalize hL : sI s = L at *
  clear hL
  go_enter Tryz.func177, Tryz.ntmps177
  go_wp2
  go_loop [3] (fun i => ∃ k : Nat, k ≤ s.size ∧ i = .int .i64 (k : Int) ∧ okK (L.take k) = true) (fun i => s.size - (intOf i).toNat)
  case atStart => exact ⟨0, Nat.zero_le _, rfl, rfl⟩
  case round =>
    obtain ⟨k, hk, rfl, ho⟩ := hrel
    by_cases hlt : k < s.size
    · have hc := hi.out k hlt
      go_wp2
      case roundEnd => exact ⟨⟨k + 1, by omega, rfl, okK_step L k ho (by omega) (by omega) (by omega)⟩, by simp [intOf]; omega⟩
      all_goals
        go_ret
        exact ⟨ret_bool (okK_not L k (by omega) (by omega)).symm, rfl⟩
    · obtain rfl : k = s.size := by omega
      have ho' : okK L = true := by rw [← hl, List.take_length] at ho; exact ho
      clear hk hlt ho hi
      go_wp2
      go_ret
      first | exact ⟨rfl, rfl⟩ | exact ⟨ret_bool ho'.symm, rfl⟩
/-- A value that is zero. -/
def zeroV (v : Va) : Bool := eqB v.k v.n v.b v.s 0 0 0 ⟨#[]⟩
/-- An act that is valid. -/
def actB (k : Int) (s : ByteArray) (v : Va) : Bool := if k = 1 then decide (s.size = 0) && zeroV v else if k = 2 ∨ k = 3 then keyB s && zeroV v else if k = 4 then keyB s && v.ok else false
abbrev aA (k : Int) (s : ByteArray) (v : Va) : Value := .agg #[.int .u8 k, .string s, .int .u8 v.k, .int .i64 v.n, .int .u64 (v.b : Int), .string v.s]
end Go.Proofs.YtnknkiiikeefgaaGreatDoor.wir.val
namespace Go.Proofs.YtnknkiiikeefgaaGreatDoor.wir.val
open Go.RowKit Go.YtnknkiiikeefgaaGreatDoor
set_option linter.unusedVariables false
abbrev aC (k : Int) (s : ByteArray) (v : Va) : Array Value := #[.int .u8 k, .string s, .int .u8 v.k, .int .i64 v.n, .int .u64 (v.b : Int), .string v.s]
theorem info_act : (Tryz.prog.info? 31).map (·.size) = some 6 := by kernel_rfl
theorem cellsA {w : World} {g : Nat} {k : Int} {s : ByteArray} {v : Va} (h : w.heap[g]? = some (.cells (aC k s v) 31 (0, 0))) :
    w.cell? ⟨g, 0, none⟩ = some (.int .u8 k) ∧ w.cell? ⟨g, 1, none⟩ = some (.string s) ∧ w.rangeAt g 2 v.l := by
  refine ⟨cell_of_row _ _ _ _ _ _ h, cell_of_row _ _ _ _ _ _ h, ?_⟩
  intro j x hx
  have hj : j < 4 := (List.getElem?_eq_some_iff.1 hx).1
  rw [← hx]
  unfold World.cell?
  rw [show (⟨g, 2 + j, none⟩ : Addr).block = g from rfl, h]
  match j, hj with
  | 0, _ => rfl
  | 1, _ => rfl
  | 2, _ => rfl
  | 3, _ => rfl
set_option maxRecDepth 100000 in
theorem eqlA (k : Int) (s : ByteArray) (v : Va) (k' : Int) (s' : ByteArray) (v' : Va) (w : World) :
    (binOp .eql 31 (aA k s v) (aA k' s' v')).run Tryz.prog w = .ok (.bool (decide (k = k') && (decide (s = s') && eqB v.k v.n v.b v.s v'.k v'.n v'.b v'.s))) w := by
  rw [run_eql_struct]
  have h0 : Tryz.prog.underlying 31 = some (.struct (Tryz.prog.fieldsOf 31)) := by kernel_rfl
  have h1 : Tryz.prog.stoodInHeld 31 = false := by kernel_rfl
  rw [run_equalIn_agg _ _ _ _ _ h0 h1]
  have hb := bytes_eq s s'
  have hb2 := bytes_eq v.s v'.s
  simp [go_sem, hb, hb2]
  have hi : ((v.b : Int) = (v'.b : Int)) ↔ v.b = v'.b := by omega
  simp only [hi]
  clear hb hb2 h0 h1 hi
  unfold eqB
  by_cases h1 : k = k' <;> by_cases h2 : s = s' <;> by_cases h3 : v.k = v'.k <;> by_cases h4 : v.n = v'.n <;> by_cases h5 : v.b = v'.b <;> by_cases h6 : v.s = v'.s <;> simp [h1, h2, h3, h4, h5, h6]
/-- A step: a row in the middle of a block is loaded. -/
theorem wpList_midV {P : Program} {ops : Array Oper} {rest : List Oper} {o : Oper} {a : Act} {w : World} {Q : Exit → Act → World → Prop} (hw : Region.wanted o (yielded ops a.tmps) = true) (ty : TypeId) (x : Operand) (ho : o.op = .load ty x) (g k : Nat) (hx : a.eval x = .pointer (some ⟨g, k, none⟩)) (cs : List Value) (d : TypeDesc)
    (hC : w.rangeAt g k cs) (hu : P.underlying ty = some d) (hd : d.isRow = true) (hi : (P.info? ty).map (·.size) = some cs.length) (h : wpList P ops Q rest (a.put o.dst (.agg cs.toArray)) w) : wpList P ops Q (o :: rest) a w :=
  wpList_step fun K hK => by
    rw [if_pos hw]
    unfold Oper.wp execOp
    simp only [ho, hx, Instr.loadAt, Instr.sureAddr, Sem.run_bind, Sem.run_pure, Result.andThen_ok, run_loadVar_mid w g k ty cs d hC hu hd hi]
    exact hK _ _ h
/-- A step: two structs are compared. -/
theorem wpList_eqlS {P : Program} {ops : Array Oper} {rest : List Oper} {o : Oper} {a : Act} {w : World} {Q : Exit → Act → World → Prop} (hw : Region.wanted o (yielded ops a.tmps) = true) (T : TypeId) (x y : Operand) (ho : o.op = .binOp .eql T x y T) (cx cy : Array Value) (hx : a.eval x = .agg cx) (hy : a.eval y = .agg cy)
    (h0 : P.eqGuardType P.depth T = false) (B : Bool) (hrun : (binOp .eql T (.agg cx) (.agg cy)).run P w = .ok (.bool B) w) (h : wpList P ops Q rest (a.put o.dst (.bool B)) w) : wpList P ops Q (o :: rest) a w :=
  wpList_step fun K hK => by
    rw [if_pos hw]
    have hg := run_eqGuard_agg (P := P) w .eql T x y cx cy h0
    unfold Oper.wp execOp
    simp only [ho, hx, hy, Sem.run_bind, Sem.run_pure, hg, Result.andThen_ok, hrun]
    exact hK _ _ h
theorem str_nil0 (s : ByteArray) : decide (s = ⟨#[]⟩) = decide (s.size = 0) := by
  rw [← bytes_eq s ⟨#[]⟩, show (⟨#[]⟩ : ByteArray).toList = [] from by rw [ByteArray.toList_eq], str_empty]
set_option maxHeartbeats 2000000 in
set_option maxRecDepth 100000 in
theorem validAct_any (k : Int) (s : ByteArray) (v : Va) (fv : v.fit) (hs : s.size ≤ 1000000) (w : World) :
    Calls Tryz.prog 86 #[aA k s v] w fun e w' => e = .returned (.bool (actB k s v)) ∧ Below w.heap.size w w' := by
  obtain ⟨W, hW⟩ : ∃ W, W = w.alloc (.cells (aC k s v) 31) := ⟨_, rfl⟩
  have hr0 := heap_alloc_new w (.cells (aC k s v) 31)
  have hb1 := Lib.hid ((Below.refl w.heap.size w).alloc (Nat.le_refl _) (.cells (aC k s v) 31))
  rw [← hW] at hr0 hb1
  obtain ⟨c0, c1, c2⟩ := cellsA hr0
  have hrow := Lib.hid hr0
  have hmid := Lib.hid c2
  have hlt := Lib.hid (Array.getElem?_eq_some_iff.1 hr0).1
  have hK := Lib.hid (fun w => key_any s hs w)
  have hC := Lib.hid (fun w => check_any v.k v.n v.b v.s fv.k fv.b fv.s w)
  clear c2 hr0 hs
  have hqA := Lib.hid (fun wz => eqlA k s v 1 ⟨#[]⟩ ⟨0, 0, 0, ⟨#[]⟩⟩ wz)
  have hqV := Lib.hid (fun wz => show (binOp .eql 29 (vA v.k v.n v.b v.s) (vA 0 0 0 ⟨#[]⟩)).run Tryz.prog wz = .ok (.bool (zeroV v)) wz from eqlV v.k v.n v.b v.s 0 0 0 ⟨#[]⟩ wz)
  by_cases h1 : k = 1
  · have e := Lib.hid (show (decide (k = 1) && (decide (s = ⟨#[]⟩) && eqB v.k v.n v.b v.s 0 0 0 ⟨#[]⟩)) = actB k s v from by unfold actB; rw [if_pos h1, decide_eq_true h1, Bool.true_and, str_nil0]; rfl)
    rw [e.out] at hqA
    generalize actB k s v = R at *
    subst h1
    go_enter Tryz.func86, Tryz.ntmps86
    go_upto_region 1 with fail
    rw [← hW]
    clear hW
    go_wp2_with (first | (refine wpList_load_row_g rfl 31 _ rfl w.heap.size rfl 31 (aC 1 s v) (0, 0) _ hrow.out Tryz.underlying31 rfl info_act ?_) | (refine wpList_eqlS rfl 31 _ _ rfl (aC 1 s v) (aC 1 ⟨#[]⟩ ⟨0, 0, 0, ⟨#[]⟩⟩) rfl rfl (by kernel_rfl) R (hqA.out _) ?_))
    go_ret
    exact ⟨rfl, hb1.out⟩
  have k1 : (k == 1) = false := by simpa using h1
  by_cases h2 : k = 2 ∨ k = 3
  · have e := Lib.hid (show actB k s v = (keyB s && zeroV v) from by unfold actB; rw [if_neg h1, if_pos h2])
    cases hkb : keyB s
    · rw [hkb] at hK
      have e' := Lib.hid (show actB k s v = false by rw [e.out, hkb]; rfl)
      generalize actB k s v = R at *
      clear e hkb
      rcases h2 with rfl | rfl
      all_goals
        clear h1
        go_enter Tryz.func86, Tryz.ntmps86
        go_upto_region 1 with fail
        rw [← hW]
        clear hW
        go_wp2_with (go_at_call 117; (with_reducible refine (hK.out _).mono ?_); rintro e w2 ⟨rfl, rfl⟩)
        go_ret
        exact ⟨ret_bool e'.out.symm, hb1.out⟩
    · rw [hkb] at hK
      have e' := Lib.hid (show actB k s v = zeroV v by rw [e.out, hkb]; rfl)
      rw [← e'.out] at hqV
      generalize actB k s v = R at *
      clear e hkb
      rcases h2 with rfl | rfl
      all_goals
        clear h1
        go_enter Tryz.func86, Tryz.ntmps86
        go_upto_region 1 with fail
        rw [← hW]
        clear hW
        go_wp2_with (first | (go_at_call 117; (with_reducible refine (hK.out _).mono ?_); rintro e w2 ⟨rfl, rfl⟩) | (refine wpList_midV rfl 29 _ rfl w.heap.size 2 rfl v.l _ hmid.out Tryz.underlying29 rfl info_val ?_) | (refine wpList_eqlS rfl 29 _ _ rfl (vC v.k v.n v.b v.s) (vC 0 0 0 ⟨#[]⟩) rfl rfl (by kernel_rfl) R (hqV.out _) ?_))
        go_ret
        exact ⟨rfl, hb1.out⟩
  have k2 : (k == 2) = false := by simpa using fun h => h2 (.inl h)
  have k3 : (k == 3) = false := by simpa using fun h => h2 (.inr h)
  by_cases h4 : k = 4
  · have e := Lib.hid (show actB k s v = (keyB s && v.ok) from by unfold actB; rw [if_neg h1, if_neg h2, if_pos h4])
    cases hkb : keyB s
    · rw [hkb] at hK
      have e' := Lib.hid (show actB k s v = false by rw [e.out, hkb]; rfl)
      generalize actB k s v = R at *
      clear e hkb
      subst h4
      clear h1 h2
      go_enter Tryz.func86, Tryz.ntmps86
      go_upto_region 1 with fail
      rw [← hW]
      clear hW
      go_wp2_with (go_at_call 117; (with_reducible refine (hK.out _).mono ?_); rintro e w2 ⟨rfl, rfl⟩)
      go_ret
      exact ⟨ret_bool e'.out.symm, hb1.out⟩
    · rw [hkb] at hK
      have e' := Lib.hid (show actB k s v = v.ok by rw [e.out, hkb]; rfl)
      have hv : (chkE v.k v.n v.b v.s == 0) = v.ok := by unfold chkE Va.ok; cases validV v.k v.n v.b v.s <;> rfl
      rw [← e'.out] at hv
      have hv' := Lib.hid hv
      clear hv
      generalize actB k s v = R at *
      generalize chkE v.k v.n v.b v.s = E at *
      clear e hkb
      subst h4
      clear h1 h2
      have hv := hv'.out
      go_enter Tryz.func86, Tryz.ntmps86
      go_upto_region 1 with fail
      rw [← hW]
      clear hW
      go_wp2_with (first | (go_at_call 117; (with_reducible refine (hK.out _).mono ?_); rintro e w2 ⟨rfl, rfl⟩) | (refine wpList_midV rfl 29 _ rfl w.heap.size 2 rfl v.l _ hmid.out Tryz.underlying29 rfl info_val ?_) | (go_at_call 118; (with_reducible refine (hC.out _).mono ?_); rintro e w3 ⟨rfl, h3⟩; have hb3 := Lib.hid (hb1.out.trans (h3.mono hb1.out.size)); clear h3))
      go_ret
      exact ⟨rfl, hb3.out⟩
  have e := Lib.hid (show actB k s v = false from by unfold actB; rw [if_neg h1, if_neg h2, if_neg h4])
  have k4 : (k == 4) = false := by simpa using h4
  generalize actB k s v = R at *
  clear h1 h2 h4
  go_enter Tryz.func86, Tryz.ntmps86
  go_upto_region 1 with fail
  rw [← hW]
  clear hW
  go_wp2
  go_ret
  exact ⟨ret_bool e.out.symm, hb1.out⟩
end Go.Proofs.YtnknkiiikeefgaaGreatDoor.wir.val
namespace Go.Proofs.YtnknkiiikeefgaaGreatDoor.wir.val
open Go.RowKit Go.YtnknkiiikeefgaaGreatDoor
set_option linter.unusedVariables false
def actE (k : Int) (s : ByteArray) (v : Va) : Int := if actB k s v = true then 0 else 8
set_option maxHeartbeats 2000000 in
set_option maxRecDepth 100000 in
theorem checkAct_any (k : Int) (s : ByteArray) (v : Va) (fv : v.fit) (hs : s.size ≤ 1000000) (w : World) :
    Calls Tryz.prog 53 #[aA k s v] w fun e w' => e = .returned (.int .i64 (actE k s v)) ∧ Below w.heap.size w w' := by
  obtain ⟨W, hW⟩ : ∃ W, W = w.alloc (.cells (aC k s v) 31) := ⟨_, rfl⟩
  have hr0 := heap_alloc_new w (.cells (aC k s v) 31)
  have hb1 := Lib.hid ((Below.refl w.heap.size w).alloc (Nat.le_refl _) (.cells (aC k s v) 31))
  rw [← hW] at hr0 hb1
  have hrow := Lib.hid hr0
  have hA := Lib.hid (fun w => validAct_any k s v fv hs w)
  clear hr0 hs
  unfold actE
  cases hB : actB k s v
  all_goals
    rw [hB] at hA
    clear hB
    go_enter Tryz.func53, Tryz.ntmps53
    go_upto_region 1 with fail
    rw [← hW]
    clear hW
    go_wp2_with (first | (refine wpList_load_row_g rfl 31 _ rfl w.heap.size rfl 31 (aC k s v) (0, 0) _ hrow.out Tryz.underlying31 rfl info_act ?_) | (go_at_call 86; (with_reducible refine (hA.out _).mono ?_); rintro e w3 ⟨rfl, h3⟩; have hb3 := Lib.hid (hb1.out.trans (h3.mono hb1.out.size)); clear h3))
    go_ret
    exact ⟨rfl, hb3.out⟩
set_option maxHeartbeats 2000000 in
set_option maxRecDepth 100000 in
theorem rcheckAct_any (k : Int) (s : ByteArray) (v : Va) (fv : v.fit) (hs : s.size ≤ 1000000) (w : World) :
    Calls Tryz.prog 145 #[aA k s v] w fun e w' => e = .returned (.int .i64 (actE k s v)) ∧ Below w.heap.size w w' := by
  obtain ⟨W, hW⟩ : ∃ W, W = w.alloc (.cells (aC k s v) 31) := ⟨_, rfl⟩
  have hr0 := heap_alloc_new w (.cells (aC k s v) 31)
  have hb1 := Lib.hid ((Below.refl w.heap.size w).alloc (Nat.le_refl _) (.cells (aC k s v) 31))
  rw [← hW] at hr0 hb1
  obtain ⟨c0, c1, c2⟩ := cellsA hr0
  have hmid := Lib.hid c2
  have hK := Lib.hid (fun w => name_any s hs w)
  have hC := Lib.hid (fun w => rcheck_any v.k v.n v.b v.s fv.k fv.b fv.s w)
  have hqV := Lib.hid (fun wz => show (binOp .eql 29 (vA v.k v.n v.b v.s) (vA 0 0 0 ⟨#[]⟩)).run Tryz.prog wz = .ok (.bool (zeroV v)) wz from eqlV v.k v.n v.b v.s 0 0 0 ⟨#[]⟩ wz)
  have hse := str_empty s
  clear c2 hr0 hs
  unfold actE
  by_cases h1 : k = 1
  · have e := Lib.hid (show actB k s v = (decide (s.size = 0) && zeroV v) from by unfold actB; rw [if_pos h1])
    rw [e.out]
    subst h1
    generalize zeroV v = Z at *
    clear e
    cases Z <;> by_cases hz : s.size = 0
    all_goals
      simp only [hz, decide_true, decide_false, Bool.and_true, Bool.and_false, Bool.false_eq_true, if_true, if_false] at hse ⊢
      clear hz
      go_enter Tryz.func145, Tryz.ntmps145
      go_upto_region 1 with fail
      rw [← hW]
      clear hW
      go_wp2_with (first | (refine wpList_midV rfl 29 _ rfl w.heap.size 2 rfl v.l _ hmid.out Tryz.underlying29 rfl info_val ?_) | (refine wpList_eqlS rfl 29 _ _ rfl (vC v.k v.n v.b v.s) (vC 0 0 0 ⟨#[]⟩) rfl rfl (by kernel_rfl) _ (hqV.out _) ?_))
      go_ret
      exact ⟨rfl, hb1.out⟩
  have k1 : (k == 1) = false := by simpa using h1
  by_cases h2 : k = 2 ∨ k = 3
  · have e := Lib.hid (show actB k s v = (keyB s && zeroV v) from by unfold actB; rw [if_neg h1, if_pos h2])
    rw [e.out]
    clear e
    generalize zeroV v = Z at *
    generalize keyB s = Y at *
    rcases h2 with rfl | rfl <;> cases Z <;> cases Y
    all_goals
      clear h1
      simp only [Bool.and_true, Bool.and_false, Bool.false_eq_true, if_true, if_false]
      go_enter Tryz.func145, Tryz.ntmps145
      go_upto_region 1 with fail
      rw [← hW]
      clear hW
      go_wp2_with (first | (refine wpList_midV rfl 29 _ rfl w.heap.size 2 rfl v.l _ hmid.out Tryz.underlying29 rfl info_val ?_) | (refine wpList_eqlS rfl 29 _ _ rfl (vC v.k v.n v.b v.s) (vC 0 0 0 ⟨#[]⟩) rfl rfl (by kernel_rfl) _ (hqV.out _) ?_) | (go_at_call 177; (with_reducible refine (hK.out _).mono ?_); rintro e w2 ⟨rfl, rfl⟩))
      go_ret
      exact ⟨rfl, hb1.out⟩
  have k2 : (k == 2) = false := by simpa using fun h => h2 (.inl h)
  have k3 : (k == 3) = false := by simpa using fun h => h2 (.inr h)
  by_cases h4 : k = 4
  · have e := Lib.hid (show actB k s v = (keyB s && v.ok) from by unfold actB; rw [if_neg h1, if_neg h2, if_pos h4])
    rw [e.out]
    unfold chkE at hC
    clear e
    unfold Va.ok
    generalize zeroV v = Z at *
    generalize keyB s = Y at *
    generalize validV v.k v.n v.b v.s = X at *
    subst h4
    clear h1 h2
    cases Y
    · simp only [Bool.false_and, Bool.false_eq_true, if_false]
      go_enter Tryz.func145, Tryz.ntmps145
      go_upto_region 1 with fail
      rw [← hW]
      clear hW
      go_wp2_with (first | (refine wpList_midV rfl 29 _ rfl w.heap.size 2 rfl v.l _ hmid.out Tryz.underlying29 rfl info_val ?_) | (refine wpList_eqlS rfl 29 _ _ rfl (vC v.k v.n v.b v.s) (vC 0 0 0 ⟨#[]⟩) rfl rfl (by kernel_rfl) _ (hqV.out _) ?_) | (go_at_call 177; (with_reducible refine (hK.out _).mono ?_); rintro e w2 ⟨rfl, rfl⟩))
      go_ret
      exact ⟨rfl, hb1.out⟩
    · cases X
      all_goals
        simp only [Bool.and_true, Bool.and_false, Bool.false_eq_true, if_true, if_false] at hC ⊢
        go_enter Tryz.func145, Tryz.ntmps145
        go_upto_region 1 with fail
        rw [← hW]
        clear hW
        go_wp2_with (first | (refine wpList_midV rfl 29 _ rfl w.heap.size 2 rfl v.l _ hmid.out Tryz.underlying29 rfl info_val ?_) | (refine wpList_eqlS rfl 29 _ _ rfl (vC v.k v.n v.b v.s) (vC 0 0 0 ⟨#[]⟩) rfl rfl (by kernel_rfl) _ (hqV.out _) ?_) | (go_at_call 177; (with_reducible refine (hK.out _).mono ?_); rintro e w2 ⟨rfl, rfl⟩) | (go_at_call 178; (with_reducible refine (hC.out _).mono ?_); rintro e w3 ⟨rfl, h3⟩; have hb3 := Lib.hid (hb1.out.trans (h3.mono hb1.out.size)); clear h3))
        go_ret
        exact ⟨rfl, hb3.out⟩
  have e := Lib.hid (show actB k s v = false from by unfold actB; rw [if_neg h1, if_neg h2, if_neg h4])
  have k4 : (k == 4) = false := by simpa using h4
  rw [e.out]
  generalize zeroV v = Z at *
  clear h1 h2 h4 e
  go_enter Tryz.func145, Tryz.ntmps145
  go_upto_region 1 with fail
  rw [← hW]
  clear hW
  go_wp2_with (first | (refine wpList_midV rfl 29 _ rfl w.heap.size 2 rfl v.l _ hmid.out Tryz.underlying29 rfl info_val ?_) | (refine wpList_eqlS rfl 29 _ _ rfl (vC v.k v.n v.b v.s) (vC 0 0 0 ⟨#[]⟩) rfl rfl (by kernel_rfl) _ (hqV.out _) ?_))
  go_ret
  exact ⟨rfl, hb1.out⟩
end Go.Proofs.YtnknkiiikeefgaaGreatDoor.wir.val

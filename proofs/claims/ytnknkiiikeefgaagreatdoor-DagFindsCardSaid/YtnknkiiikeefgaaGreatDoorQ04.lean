/- Layer 6: signatures' numbers, and lists of ids that increase: contracts of package op. Layer 6: operations are checked: contracts of package op and of its reference. Layer 6: operations are checked: contract of the reference. -/
import Derived.Test.YtnknkiiikeefgaaGreatDoorQ01
import Derived.Test.YtnknkiiikeefgaaGreatDoorI01
import Derived.BigQuiet
import Derived.Test.YtnknkiiikeefgaaGreatDoorD
namespace Go.Proofs.YtnknkiiikeefgaaGreatDoor.wir.val
open Go.RowKit Go.YtnknkiiikeefgaaGreatDoor
set_option linter.unusedVariables false
def sigB (e s : Int) : Bool := decide (e < 500000003) && decide (s < 500000003)
theorem validSig_any (e s : Int) (w : World) :
    Calls Tryz.prog 92 #[.agg #[.int .u32 e, .int .u32 s]] w fun x w' => x = .returned (.bool (sigB e s)) ∧ Below w.heap.size w w' := by
  have hB := Lib.hid (show Below w.heap.size w (w.alloc (.cells #[.int .u32 e, .int .u32 s] 33)) from (Below.refl w.heap.size w).alloc (Nat.le_refl _) _)
  have he : sigB e s = (decide (e < 500000003) && decide (s < 500000003)) := rfl
  generalize sigB e s = R at *
  go_enter Tryz.func92, Tryz.ntmps92
  generalize hc : (500000003 : Int) = c at he ⊢
  by_cases h1 : e < c
  · by_cases h2 : s < c
    · have e' := Lib.hid (he.trans (by rw [decide_eq_true h1, decide_eq_true h2]))
      clear he hc
      go_wp2
      go_ret
      exact ⟨ret_bool e'.out.symm, hB.out⟩
    · have e' := Lib.hid (he.trans (by rw [decide_eq_true h1, decide_eq_false h2]))
      clear he hc
      go_wp2
      go_ret
      exact ⟨ret_bool e'.out.symm, hB.out⟩
  · have e' := Lib.hid (he.trans (by rw [decide_eq_false h1]))
    clear he hc
    go_wp2
    go_ret
    exact ⟨ret_bool e'.out.symm, hB.out⟩
theorem qa_eqlI {C : World → Prop} {a : Act} {o : Oper} (x y : Operand) (A B : List Int) (hA : A.length = 32) (hB : B.length = 32) (R : Bool) (hR : decide (A = B) = R) (ho : o.op = .binOp .eql 24 x y 24)
    (hx : a.eval x = .agg (u8s A)) (hy : a.eval y = .agg (u8s B)) : ∀ w, C w → o.quietAt Tryz.prog a C w (.bool R) := by
  intro w _; subst hR; refine qa_ok ?_
  have h0 : Tryz.prog.eqGuardType Tryz.prog.depth 24 = false := by kernel_rfl
  have hg := run_eqGuard_agg (P := Tryz.prog) w .eql 24 x y (u8s A) (u8s B) h0
  have he := run_equalArr (P := Tryz.prog) w 9998 24 5 32 Tryz.underlying24 Tryz.underlying5 (by kernel_rfl) A B hA hB
  unfold execOp
  generalize a.eval = ev at *
  simp only [ho]
  simp only [hx, hy] at *
  simp [go_sem, hg, he]
set_option maxRecDepth 100000 in
set_option maxHeartbeats 2000000 in
theorem opIncrease_any (F : List Int) (n : Nat) (v : Value) (w : World) (hr : RdI w v n F) (hF : Bytes F) (hn : n ≤ 100000) :
    Calls Tryz.prog 90 #[v] w fun e w' => e = .returned (.bool (riseF F n)) ∧ Below w.heap.size w w' := by
  have hlen := Lib.hid hr.len
  obtain ⟨a, c, rfl⟩ := hr.slice
  have hr' := Lib.hid hr; have hF' := Lib.hid hF
  clear hr hF
  have hwn : IntKind.i64.wrap ((n : Int) - 1) = (n : Int) - 1 := IntWalk.i64_in _ (by omega)
  go_enter Tryz.func90, Tryz.ntmps90
  go_wp2
  go_loopw [7] (fun i wr => ∃ k : Nat, (k = 0 ∨ k + 1 ≤ n) ∧ i = .int .i64 k ∧ Below w.heap.size w wr ∧ ∀ j, j < k → cmpF (idF F j) (idF F (j + 1)) < 0) (fun i _ => n - (intOf i).toNat)
  case atStart => exact ⟨0, .inl rfl, rfl, Below.refl _ _, fun j hj => absurd hj (Nat.not_lt_zero _)⟩
  case round =>
    obtain ⟨k, hk, rfl, hb, he⟩ := hrel
    have he' := Lib.hid he; have hb' := Lib.hid hb
    clear he hb
    by_cases hlt : k + 1 < n
    · obtain ⟨b, o, rfl, hbw, hnc, q1, _⟩ := rdI_at hr'.out hb'.out k (by omega)
      obtain ⟨b2, o2, hab, _, _, q2, _⟩ := rdI_at hr'.out hb'.out (k + 1) hlt
      cases hab
      have hbr := Lib.hid (Nat.lt_of_lt_of_le hbw hb'.out.size)
      have q1' := Lib.hid (fun (w' : World) (h : Below wr.heap.size wr w') => (show w'.rangeAt b (o + k * 32) (idV (idF F k)) from fun j v hv => (h.cell (p := ⟨b, o + k * 32 + j, none⟩) hbr.out).trans (q1 j v hv)))
      have q2' := Lib.hid (fun (w' : World) (h : Below wr.heap.size wr w') => (show w'.rangeAt b (o + (k + 1) * 32) (idV (idF F (k + 1))) from fun j v hv => (h.cell (p := ⟨b, o + (k + 1) * 32 + j, none⟩) hbr.out).trans (q2 j v hv)))
      have l1 := Lib.hid (idF_length F n k hlen.out (by omega))
      have l2 := Lib.hid (idF_length F n (k + 1) hlen.out hlt)
      have hc := Lib.hid (fun wi => cmp_any (idF F k) (idF F (k + 1)) wi l1.out l2.out (idF_bytes F k hF'.out) (idF_bytes F (k + 1) hF'.out))
      have hno := Lib.hid (fun h => rise_no (F := F) (n := n) k hlt h)
      have hyes := Lib.hid (fun (h : cmpF (idF F k) (idF F (k + 1)) < 0) => (show ∀ j, j < k + 1 → cmpF (idF F j) (idF F (j + 1)) < 0 from fun j hj => by
        rcases Nat.lt_or_ge j k with h1 | h1
        · exact he'.out j h1
        · obtain rfl : j = k := by omega
          exact h))
      clear q1 q2 he' hk
      have hz1 := Lib.hid (fun h : idF F k = idF F (k + 1) => (show cmpF (idF F k) (idF F (k + 1)) = 0 by rw [h]; exact cmp_self _))
      have hz2 := Lib.hid (fun h : cmpF (idF F k) (idF F (k + 1)) = 0 => cmp_zero _ _ h)
      generalize idF F (k + 1) = B at *
      generalize idF F k = A at *
      generalize cmpF A B = T at *
      have x1 : IntKind.i64.wrap ((k : Int) + 1) = (k : Int) + 1 := IntWalk.i64_in _ (by omega)
      have x2 : (0 : Int) ≤ (k : Int) + 1 := by omega
      have x3 : ((k : Int) + 1).toNat = k + 1 := by omega
      have x4 : (k : Int) + 1 < (n : Int) := by omega
      have x5 : k < n := by omega
      have x6 : (k : Int) < (n : Int) := by omega
      have i1 : Hid ((Tryz.prog.info? 24).map (·.size) = some (idV A).length) := Lib.hid (by rw [idV_length, l1.out]; kernel_rfl)
      have i2 : Hid ((Tryz.prog.info? 24).map (·.size) = some (idV B).length) := Lib.hid (by rw [idV_length, l2.out]; kernel_rfl)
      by_cases hAB : A = B
      · have hR := Lib.hid (decide_eq_true hAB)
        have hh := Lib.hid (hno.out (by rw [hz1.out hAB]; omega))
        clear hAB hno hyes hz1 hz2
        go_upto_region 4 with fail
        refine wp_region_quiet (C := fun w' => Below wr.heap.size wr w') (by kernel_rfl) (by kernel_rfl) ((Below.refl _ _).drew) ?_
        simp only []
        iterate 3 (go_big_quiet_want; go_big_quiet_op; first | go_big_quiet_on | (refine ⟨_, fun _ _ => rfl, ?_⟩; go_big_quiet_on))
        refine wpq (.agg (u8s A)) rfl (qa_load_mid 24 _ rfl b (o + k * 32) rfl A _ Tryz.underlying24 rfl i1.out q1'.out) rfl (fun K hK => ?_); go_simp; refine hK _ ?_; clear hK K
        iterate 4 (go_big_quiet_want; go_big_quiet_op; first | go_big_quiet_on | (refine ⟨_, fun _ _ => rfl, ?_⟩; go_big_quiet_on))
        refine wpq (.agg (u8s B)) rfl (qa_load_mid 24 _ rfl b (o + (k + 1) * 32) rfl B _ Tryz.underlying24 rfl i2.out q2'.out) rfl (fun K hK => ?_); go_simp; refine hK _ ?_; clear hK K
        refine wpq (.bool true) rfl (qa_eqlI _ _ A B l1.out l2.out true hR.out rfl rfl rfl) rfl (fun K hK => ?_); go_simp; refine hK _ ?_; clear hK K
        (go_big_quiet_want; go_big_quiet_op; first | go_big_quiet_on | (refine ⟨_, fun _ _ => rfl, ?_⟩; go_big_quiet_on))
        iterate 11 go_big_quiet_skip
        (go_big_quiet_want; go_big_quiet_op; first | go_big_quiet_on | (refine ⟨_, fun _ _ => rfl, ?_⟩; go_big_quiet_on))
        refine wpQuiet_nil ?_
        intro w2 h2
        have hB2 := Lib.hid (hb'.out.trans (h2.mono hb'.out.size))
        clear h2
        go_wp2
        go_ret
        exact ⟨ret_bool hh.out.symm, hB2.out⟩
      · have hR := Lib.hid (decide_eq_false hAB)
        have hT0 : T ≠ 0 := fun h => hAB (hz2.out h)
        clear hAB hz1 hz2
        go_upto_region 4 with fail
        refine wp_region_quiet (C := fun w' => Below wr.heap.size wr w') (by kernel_rfl) (by kernel_rfl) ((Below.refl _ _).drew) ?_
        simp only []
        iterate 3 (go_big_quiet_want; go_big_quiet_op; first | go_big_quiet_on | (refine ⟨_, fun _ _ => rfl, ?_⟩; go_big_quiet_on))
        refine wpq (.agg (u8s A)) rfl (qa_load_mid 24 _ rfl b (o + k * 32) rfl A _ Tryz.underlying24 rfl i1.out q1'.out) rfl (fun K hK => ?_); go_simp; refine hK _ ?_; clear hK K
        iterate 4 (go_big_quiet_want; go_big_quiet_op; first | go_big_quiet_on | (refine ⟨_, fun _ _ => rfl, ?_⟩; go_big_quiet_on))
        refine wpq (.agg (u8s B)) rfl (qa_load_mid 24 _ rfl b (o + (k + 1) * 32) rfl B _ Tryz.underlying24 rfl i2.out q2'.out) rfl (fun K hK => ?_); go_simp; refine hK _ ?_; clear hK K
        refine wpq (.bool false) rfl (qa_eqlI _ _ A B l1.out l2.out false hR.out rfl rfl rfl) rfl (fun K hK => ?_); go_simp; refine hK _ ?_; clear hK K
        (go_big_quiet_want; go_big_quiet_op; first | go_big_quiet_on | (refine ⟨_, fun _ _ => rfl, ?_⟩; go_big_quiet_on))
        iterate 3 (go_big_quiet_want; go_big_quiet_op; first | go_big_quiet_on | (refine ⟨_, fun _ _ => rfl, ?_⟩; go_big_quiet_on))
        refine wpq (.agg (u8s A)) rfl (qa_load_mid 24 _ rfl b (o + k * 32) rfl A _ Tryz.underlying24 rfl i1.out q1'.out) rfl (fun K hK => ?_); go_simp; refine hK _ ?_; clear hK K
        iterate 4 (go_big_quiet_want; go_big_quiet_op; first | go_big_quiet_on | (refine ⟨_, fun _ _ => rfl, ?_⟩; go_big_quiet_on))
        refine wpq (.agg (u8s B)) rfl (qa_load_mid 24 _ rfl b (o + (k + 1) * 32) rfl B _ Tryz.underlying24 rfl i2.out q2'.out) rfl (fun K hK => ?_); go_simp; refine hK _ ?_; clear hK K
        refine wpq (.int .i64 T) rfl (quiet_call2 rfl Tryz.func95 (by kernel_rfl) rfl (.agg (u8s A)) (.agg (u8s B)) (.int .i64 T) rfl rfl rfl (fun w9 h => (hc.out w9).mono fun e w' ⟨he, hd⟩ => ⟨he, h.trans (hd.mono h.size)⟩)) rfl (fun K hK => ?_); go_simp; refine hK _ ?_; clear hK K
        (go_big_quiet_want; go_big_quiet_op; first | go_big_quiet_on | (refine ⟨_, fun _ _ => rfl, ?_⟩; go_big_quiet_on))
        (go_big_quiet_want; go_big_quiet_op; first | go_big_quiet_on | (refine ⟨_, fun _ _ => rfl, ?_⟩; go_big_quiet_on))
        refine wpQuiet_nil ?_
        intro w2 h2
        have hB2 := Lib.hid (hb'.out.trans (h2.mono hb'.out.size))
        clear h2
        by_cases hT : T < 0
        · have hh := Lib.hid (hyes.out hT)
          have hT2 : ¬ 0 < T := by omega
          clear hno hyes
          go_wp2
          go_roundw
          case rel => exact ⟨k + 1, .inr (by omega), by go_num, hB2.out, hh.out⟩
          case measure => simp [intOf]; omega
        · have hh := Lib.hid (hno.out (by omega))
          have hT2 : 0 < T := by omega
          clear hno hyes
          go_wp2
          go_ret
          exact ⟨ret_bool hh.out.symm, hB2.out⟩
    · have hh := Lib.hid (rise_yes (F := F) (n := n) (fun i hi => he'.out i (by rcases hk with h | h <;> omega)))
      have hk' : ¬ (k : Int) < (n : Int) - 1 := by omega
      go_wp2
      go_ret
      exact ⟨ret_bool hh.out.symm, hb'.out⟩
end Go.Proofs.YtnknkiiikeefgaaGreatDoor.wir.val
namespace Go.Proofs.YtnknkiiikeefgaaGreatDoor.wir.val
open Go.RowKit Go.YtnknkiiikeefgaaGreatDoor
set_option linter.unusedVariables false
/-- An operation; its predecessors are n ids, whose bytes, one behind the other, are F. -/
structure Od where
  au : Nat
  n : Nat
  F : List Int
  st : Nat
  k : Int
  key : ByteArray
  v : Va
  e : Nat
  s : Nat
abbrev Od.c (o : Od) (pv : Value) : Array Value := #[.int .u32 (o.au : Int), pv, .int .u64 (o.st : Int), .int .u8 o.k, .string o.key, .int .u8 o.v.k, .int .i64 o.v.n, .int .u64 (o.v.b : Int), .string o.v.s, .int .u32 (o.e : Int), .int .u32 (o.s : Int)]
structure Od.Fit (o : Od) : Prop where
  au : o.au < 4294967296
  F : Bytes o.F
  n : o.n ≤ 100000
  st : o.st < 18446744073709551616
  k : 0 ≤ o.k ∧ o.k < 256
  key : o.key.size ≤ 1000000
  v : o.v.fit
  e : o.e < 4294967296
  s : o.s < 4294967296
def okO (o : Od) : Bool := grp.inG o.au && (decide ((o.st : Int) ≤ 1000000000000) && (actB o.k o.key o.v && sigB (o.e : Int) (o.s : Int)))
def chkO (o : Od) : Int := if 4 < o.n then 4 else if riseF o.F o.n = true then (if okO o = true then 0 else 8) else 32
theorem info_op : (Tryz.prog.info? 35).map (·.size) = some 11 := by kernel_rfl
theorem info_sig : (Tryz.prog.info? 33).map (·.size) = some 2 := by kernel_rfl
theorem cellsO {w : World} {g : Nat} {o : Od} {pv : Value} (h : w.heap[g]? = some (.cells (o.c pv) 35 (0, 0))) :
    w.cell? ⟨g, 0, none⟩ = some (.int .u32 (o.au : Int)) ∧ w.cell? ⟨g, 1, none⟩ = some pv ∧ w.cell? ⟨g, 2, none⟩ = some (.int .u64 (o.st : Int)) ∧ w.rangeAt g 3 (aC o.k o.key o.v).toList ∧ w.rangeAt g 9 [.int .u32 (o.e : Int), .int .u32 (o.s : Int)] ∧ w.cell? ⟨g, 9, none⟩ = some (.int .u32 (o.e : Int)) ∧ w.cell? ⟨g, 10, none⟩ = some (.int .u32 (o.s : Int)) := by
  refine ⟨cell_of_row _ _ _ _ _ _ h, cell_of_row _ _ _ _ _ _ h, cell_of_row _ _ _ _ _ _ h, ?_, ?_, cell_of_row _ _ _ _ _ _ h, cell_of_row _ _ _ _ _ _ h⟩
  · intro j x hx
    have hj : j < 6 := (List.getElem?_eq_some_iff.1 hx).1
    rw [← hx]
    unfold World.cell?
    rw [show (⟨g, 3 + j, none⟩ : Addr).block = g from rfl, h]
    match j, hj with
    | 0, _ => rfl
    | 1, _ => rfl
    | 2, _ => rfl
    | 3, _ => rfl
    | 4, _ => rfl
    | 5, _ => rfl
  · intro j x hx
    have hj : j < 2 := (List.getElem?_eq_some_iff.1 hx).1
    rw [← hx]
    unfold World.cell?
    rw [show (⟨g, 9 + j, none⟩ : Addr).block = g from rfl, h]
    match j, hj with
    | 0, _ => rfl
    | 1, _ => rfl
theorem chk_many {o : Od} (h : 4 < o.n) : chkO o = 4 := if_pos h
theorem chk_order {o : Od} (h : ¬ 4 < o.n) (h2 : riseF o.F o.n = false) : chkO o = 32 := by unfold chkO; rw [if_neg h, if_neg (by rw [h2]; decide)]
theorem chk_bad {o : Od} (h : ¬ 4 < o.n) (h2 : riseF o.F o.n = true) (h3 : okO o = false) : chkO o = 8 := by unfold chkO; rw [if_neg h, if_pos h2, if_neg (by rw [h3]; decide)]
theorem chk_ok {o : Od} (h : ¬ 4 < o.n) (h2 : riseF o.F o.n = true) (h3 : okO o = true) : chkO o = 0 := by unfold chkO; rw [if_neg h, if_pos h2, if_pos h3]
set_option maxHeartbeats 4000000 in
set_option maxRecDepth 100000 in
theorem opCheck_any (o : Od) (fo : o.Fit) (pv : Value) (w : World) (hp : RdI w pv o.n o.F) :
    Calls Tryz.prog 56 #[.agg (o.c pv)] w fun e w' => e = .returned (.int .i64 (chkO o)) ∧ Below w.heap.size w w' := by
  obtain ⟨W, hW⟩ : ∃ W, W = w.alloc (.cells (o.c pv) 35) := ⟨_, rfl⟩
  have hr0 := heap_alloc_new w (.cells (o.c pv) 35)
  have hb0 := (Below.refl w.heap.size w).alloc (Nat.le_refl _) (.cells (o.c pv) 35)
  rw [← hW] at hr0 hb0
  obtain ⟨pa, pc, rfl⟩ := hp.slice
  have hb1 := Lib.hid hb0
  have hp1 := Lib.hid (hp.mono hb0)
  have hrow := Lib.hid hr0
  obtain ⟨c0, c1, c2, _, _, _, _⟩ := cellsO hr0
  have hmids := Lib.hid (fun (wz : World) (h : Below W.heap.size W wz) => (cellsO (rowB hrow.out h (Array.getElem?_eq_some_iff.1 hr0).1)))
  clear hr0 hb0 hp
  by_cases h1 : 4 < o.n
  · have e := Lib.hid (chk_many h1)
    generalize chkO o = R at *
    have h1' : (4 : Int) < (o.n : Int) := by omega
    clear h1
    go_enter Tryz.func56, Tryz.ntmps56
    go_upto_region 1 with fail
    rw [← hW]
    clear hW
    go_wp2
    go_ret
    exact ⟨ret_int e.out.symm, hb1.out⟩
  have h1' : ¬ (4 : Int) < (o.n : Int) := by omega
  have hI := Lib.hid (opIncrease_any o.F o.n _ W hp1.out fo.F fo.n)
  cases h2 : riseF o.F o.n
  · have e := Lib.hid (chk_order h1 h2)
    rw [h2] at hI
    generalize chkO o = R at *
    clear h1 h2
    go_enter Tryz.func56, Tryz.ntmps56
    go_upto_region 1 with fail
    rw [← hW]
    clear hW
    go_wp2_with (go_at_call 90; (with_reducible refine (hI.out).mono ?_); rintro e w3 ⟨rfl, h3⟩; have hb3 := Lib.hid (hb1.out.trans (h3.mono hb1.out.size)); clear h3)
    go_ret
    exact ⟨ret_int e.out.symm, hb3.out⟩
  rw [h2] at hI
  have hG := Lib.hid (fun w => grp.is_any o.au fo.au w)
  have hA := Lib.hid (fun w => validAct_any o.k o.key o.v fo.v fo.key w)
  have hS := Lib.hid (fun w => validSig_any (o.e : Int) (o.s : Int) w)
  have hok : okO o = (grp.inG o.au && (decide ((o.st : Int) ≤ 1000000000000) && (actB o.k o.key o.v && sigB (o.e : Int) (o.s : Int)))) := rfl
  have hbad := Lib.hid (fun h => chk_bad h1 h2 h)
  have hyes := Lib.hid (fun h => chk_ok h1 h2 h)
  clear h1 h2 hrow fo hp1
  generalize chkO o = R at *
  generalize okO o = OK at *
  generalize grp.inG o.au = G at *
  generalize actB o.k o.key o.v = AB at *
  generalize sigB (o.e : Int) (o.s : Int) = SB at *
  go_enter Tryz.func56, Tryz.ntmps56
  generalize hc : (1000000000000 : Int) = c at hok ⊢
  go_upto_region 1 with fail
  rw [← hW]
  clear hW
  go_upto_region 5 with (go_at_call 90; (with_reducible refine (hI.out).mono ?_); rintro e w3 ⟨rfl, h3⟩; have hb3 := Lib.hid h3; clear h3)
  clear c0 c1 c2 hI
  obtain ⟨c0, _, c2, _, _, _, _⟩ := hmids.out _ hb3.out
  cases G
  · have e := Lib.hid (hbad.out (by rw [hok]; rfl))
    clear hok hbad hyes
    go_wp2_with (first | (go_at_call 91; (with_reducible refine (hG.out _).mono ?_); rintro e w4 ⟨rfl, h4⟩; replace hb3 := Lib.hid (hb3.out.trans (Below.mono (show Below _ _ _ from h4) hb3.out.size)); clear h4; obtain ⟨c0, _, c2, _, _, _, _⟩ := hmids.out _ hb3.out) | (go_at_call 86; (with_reducible refine (hA.out _).mono ?_); rintro e w5 ⟨rfl, h5⟩; replace hb3 := Lib.hid (hb3.out.trans (Below.mono (show Below _ _ _ from h5) hb3.out.size)); clear h5; obtain ⟨c0, _, c2, _, _, _, _⟩ := hmids.out _ hb3.out) | (go_at_call 92; (with_reducible refine (hS.out _).mono ?_); rintro e w6 ⟨rfl, h6⟩; replace hb3 := Lib.hid (hb3.out.trans (Below.mono (show Below _ _ _ from h6) hb3.out.size)); clear h6; obtain ⟨c0, _, c2, _, _, _, _⟩ := hmids.out _ hb3.out) | (refine wpList_midV rfl 31 _ rfl w.heap.size 3 rfl [.int .u8 o.k, .string o.key, .int .u8 o.v.k, .int .i64 o.v.n, .int .u64 (o.v.b : Int), .string o.v.s] _ (hmids.out _ hb3.out).2.2.2.1 Tryz.underlying31 rfl info_act ?_) | (refine wpList_midV rfl 33 _ rfl w.heap.size 9 rfl [.int .u32 (o.e : Int), .int .u32 (o.s : Int)] _ (hmids.out _ hb3.out).2.2.2.2.1 Tryz.underlying33 rfl info_sig ?_))
    go_ret
    exact ⟨ret_int e.out.symm, hb1.out.trans (hb3.out.mono hb1.out.size)⟩
  by_cases h5 : (o.st : Int) ≤ c
  · have h6 : decide (c < (o.st : Int)) = false := decide_eq_false (by omega)
    cases AB
    · have e := Lib.hid (hbad.out (by rw [hok]; rw [decide_eq_true h5]; rfl))
      clear hok hbad hyes
      go_wp2_with (first | (go_at_call 91; (with_reducible refine (hG.out _).mono ?_); rintro e w4 ⟨rfl, h4⟩; replace hb3 := Lib.hid (hb3.out.trans (Below.mono (show Below _ _ _ from h4) hb3.out.size)); clear h4; obtain ⟨c0, _, c2, _, _, _, _⟩ := hmids.out _ hb3.out) | (go_at_call 86; (with_reducible refine (hA.out _).mono ?_); rintro e w5 ⟨rfl, h5⟩; replace hb3 := Lib.hid (hb3.out.trans (Below.mono (show Below _ _ _ from h5) hb3.out.size)); clear h5; obtain ⟨c0, _, c2, _, _, _, _⟩ := hmids.out _ hb3.out) | (go_at_call 92; (with_reducible refine (hS.out _).mono ?_); rintro e w6 ⟨rfl, h6⟩; replace hb3 := Lib.hid (hb3.out.trans (Below.mono (show Below _ _ _ from h6) hb3.out.size)); clear h6; obtain ⟨c0, _, c2, _, _, _, _⟩ := hmids.out _ hb3.out) | (refine wpList_midV rfl 31 _ rfl w.heap.size 3 rfl [.int .u8 o.k, .string o.key, .int .u8 o.v.k, .int .i64 o.v.n, .int .u64 (o.v.b : Int), .string o.v.s] _ (hmids.out _ hb3.out).2.2.2.1 Tryz.underlying31 rfl info_act ?_) | (refine wpList_midV rfl 33 _ rfl w.heap.size 9 rfl [.int .u32 (o.e : Int), .int .u32 (o.s : Int)] _ (hmids.out _ hb3.out).2.2.2.2.1 Tryz.underlying33 rfl info_sig ?_))
      go_ret
      exact ⟨ret_int e.out.symm, hb1.out.trans (hb3.out.mono hb1.out.size)⟩
    cases SB
    · have e := Lib.hid (hbad.out (by rw [hok]; rw [decide_eq_true h5]; rfl))
      clear hok hbad hyes
      go_wp2_with (first | (go_at_call 91; (with_reducible refine (hG.out _).mono ?_); rintro e w4 ⟨rfl, h4⟩; replace hb3 := Lib.hid (hb3.out.trans (Below.mono (show Below _ _ _ from h4) hb3.out.size)); clear h4; obtain ⟨c0, _, c2, _, _, _, _⟩ := hmids.out _ hb3.out) | (go_at_call 86; (with_reducible refine (hA.out _).mono ?_); rintro e w5 ⟨rfl, h5⟩; replace hb3 := Lib.hid (hb3.out.trans (Below.mono (show Below _ _ _ from h5) hb3.out.size)); clear h5; obtain ⟨c0, _, c2, _, _, _, _⟩ := hmids.out _ hb3.out) | (go_at_call 92; (with_reducible refine (hS.out _).mono ?_); rintro e w6 ⟨rfl, h6⟩; replace hb3 := Lib.hid (hb3.out.trans (Below.mono (show Below _ _ _ from h6) hb3.out.size)); clear h6; obtain ⟨c0, _, c2, _, _, _, _⟩ := hmids.out _ hb3.out) | (refine wpList_midV rfl 31 _ rfl w.heap.size 3 rfl [.int .u8 o.k, .string o.key, .int .u8 o.v.k, .int .i64 o.v.n, .int .u64 (o.v.b : Int), .string o.v.s] _ (hmids.out _ hb3.out).2.2.2.1 Tryz.underlying31 rfl info_act ?_) | (refine wpList_midV rfl 33 _ rfl w.heap.size 9 rfl [.int .u32 (o.e : Int), .int .u32 (o.s : Int)] _ (hmids.out _ hb3.out).2.2.2.2.1 Tryz.underlying33 rfl info_sig ?_))
      go_ret
      exact ⟨ret_int e.out.symm, hb1.out.trans (hb3.out.mono hb1.out.size)⟩
    have e := Lib.hid (hyes.out (by rw [hok, decide_eq_true h5]; rfl))
    clear hok hbad hyes
    go_wp2_with (first | (go_at_call 91; (with_reducible refine (hG.out _).mono ?_); rintro e w4 ⟨rfl, h4⟩; replace hb3 := Lib.hid (hb3.out.trans (Below.mono (show Below _ _ _ from h4) hb3.out.size)); clear h4; obtain ⟨c0, _, c2, _, _, _, _⟩ := hmids.out _ hb3.out) | (go_at_call 86; (with_reducible refine (hA.out _).mono ?_); rintro e w5 ⟨rfl, h5⟩; replace hb3 := Lib.hid (hb3.out.trans (Below.mono (show Below _ _ _ from h5) hb3.out.size)); clear h5; obtain ⟨c0, _, c2, _, _, _, _⟩ := hmids.out _ hb3.out) | (go_at_call 92; (with_reducible refine (hS.out _).mono ?_); rintro e w6 ⟨rfl, h6⟩; replace hb3 := Lib.hid (hb3.out.trans (Below.mono (show Below _ _ _ from h6) hb3.out.size)); clear h6; obtain ⟨c0, _, c2, _, _, _, _⟩ := hmids.out _ hb3.out) | (refine wpList_midV rfl 31 _ rfl w.heap.size 3 rfl [.int .u8 o.k, .string o.key, .int .u8 o.v.k, .int .i64 o.v.n, .int .u64 (o.v.b : Int), .string o.v.s] _ (hmids.out _ hb3.out).2.2.2.1 Tryz.underlying31 rfl info_act ?_) | (refine wpList_midV rfl 33 _ rfl w.heap.size 9 rfl [.int .u32 (o.e : Int), .int .u32 (o.s : Int)] _ (hmids.out _ hb3.out).2.2.2.2.1 Tryz.underlying33 rfl info_sig ?_))
    go_ret
    exact ⟨ret_int e.out.symm, hb1.out.trans (hb3.out.mono hb1.out.size)⟩
  · have h6 : decide (c < (o.st : Int)) = true := decide_eq_true (by omega)
    have e := Lib.hid (hbad.out (by rw [hok]; rw [decide_eq_false h5]; rfl))
    clear hok hbad hyes
    go_wp2_with (first | (go_at_call 91; (with_reducible refine (hG.out _).mono ?_); rintro e w4 ⟨rfl, h4⟩; replace hb3 := Lib.hid (hb3.out.trans (Below.mono (show Below _ _ _ from h4) hb3.out.size)); clear h4; obtain ⟨c0, _, c2, _, _, _, _⟩ := hmids.out _ hb3.out) | (go_at_call 86; (with_reducible refine (hA.out _).mono ?_); rintro e w5 ⟨rfl, h5⟩; replace hb3 := Lib.hid (hb3.out.trans (Below.mono (show Below _ _ _ from h5) hb3.out.size)); clear h5; obtain ⟨c0, _, c2, _, _, _, _⟩ := hmids.out _ hb3.out) | (go_at_call 92; (with_reducible refine (hS.out _).mono ?_); rintro e w6 ⟨rfl, h6⟩; replace hb3 := Lib.hid (hb3.out.trans (Below.mono (show Below _ _ _ from h6) hb3.out.size)); clear h6; obtain ⟨c0, _, c2, _, _, _, _⟩ := hmids.out _ hb3.out) | (refine wpList_midV rfl 31 _ rfl w.heap.size 3 rfl [.int .u8 o.k, .string o.key, .int .u8 o.v.k, .int .i64 o.v.n, .int .u64 (o.v.b : Int), .string o.v.s] _ (hmids.out _ hb3.out).2.2.2.1 Tryz.underlying31 rfl info_act ?_) | (refine wpList_midV rfl 33 _ rfl w.heap.size 9 rfl [.int .u32 (o.e : Int), .int .u32 (o.s : Int)] _ (hmids.out _ hb3.out).2.2.2.2.1 Tryz.underlying33 rfl info_sig ?_))
    go_ret
    exact ⟨ret_int e.out.symm, hb1.out.trans (hb3.out.mono hb1.out.size)⟩
end Go.Proofs.YtnknkiiikeefgaaGreatDoor.wir.val
namespace Go.Proofs.YtnknkiiikeefgaaGreatDoor.wir.val
open Go.RowKit Go.YtnknkiiikeefgaaGreatDoor
set_option linter.unusedVariables false
theorem nat_int_lt (a : Nat) : decide (a < 500000003) = decide ((a : Int) < 500000003) := by rw [Bool.eq_iff_iff, decide_eq_true_iff, decide_eq_true_iff]; omega
set_option maxHeartbeats 4000000 in
set_option maxRecDepth 100000 in
theorem ropCheck_any (o : Od) (fo : o.Fit) (pv : Value) (w : World) (hp : RdI w pv o.n o.F) :
    Calls Tryz.prog 107 #[.agg (o.c pv)] w fun e w' => e = .returned (.int .i64 (chkO o)) ∧ Below w.heap.size w w' := by
  obtain ⟨W, hW⟩ : ∃ W, W = w.alloc (.cells (o.c pv) 35) := ⟨_, rfl⟩
  have hr0 := heap_alloc_new w (.cells (o.c pv) 35)
  have hb0 := (Below.refl w.heap.size w).alloc (Nat.le_refl _) (.cells (o.c pv) 35)
  rw [← hW] at hr0 hb0
  obtain ⟨pa, pc, rfl⟩ := hp.slice
  have hb1 := Lib.hid hb0
  have hp1 := Lib.hid (hp.mono hb0)
  have hrow := Lib.hid hr0
  obtain ⟨c0, c1, c2, _, _, _, _⟩ := cellsO hr0
  have hmids := Lib.hid (fun (wz : World) (h : Below W.heap.size W wz) => (cellsO (rowB hrow.out h (Array.getElem?_eq_some_iff.1 hr0).1)))
  clear hr0 hb0 hp
  by_cases h1 : 4 < o.n
  · have e := Lib.hid (chk_many h1)
    generalize chkO o = R at *
    have h1' : (4 : Int) < (o.n : Int) := by omega
    clear h1
    go_enter Tryz.func107, Tryz.ntmps107
    go_upto_region 1 with fail
    rw [← hW]
    clear hW
    go_wp2
    go_ret
    exact ⟨ret_int e.out.symm, hb1.out⟩
  have h1' : ¬ (4 : Int) < (o.n : Int) := by omega
  have hI := Lib.hid (rising_any o.F o.n _ W hp1.out fo.F fo.n)
  cases h2 : riseF o.F o.n
  · have e := Lib.hid (chk_order h1 h2)
    rw [h2] at hI
    generalize chkO o = R at *
    clear h1 h2
    go_enter Tryz.func107, Tryz.ntmps107
    go_upto_region 1 with fail
    rw [← hW]
    clear hW
    go_wp2_with (go_at_call 38; (with_reducible refine (hI.out).mono ?_); rintro e w3 ⟨rfl, h3⟩; have hb3 := Lib.hid (hb1.out.trans (h3.mono hb1.out.size)); clear h3)
    go_ret
    exact ⟨ret_int e.out.symm, hb3.out⟩
  rw [h2] at hI
  have hG := Lib.hid (fun w => grp.ris_any o.au fo.au w)
  have hA := Lib.hid (fun w => rcheckAct_any o.k o.key o.v fo.v fo.key w)
  have hE1 := Lib.hid (fun w => grp.exponent_any o.e fo.e w)
  have hE2 := Lib.hid (fun w => grp.exponent_any o.s fo.s w)
  rw [nat_int_lt] at hE1 hE2
  unfold actE at hA
  have hok : okO o = (grp.inG o.au && (decide ((o.st : Int) ≤ 1000000000000) && (actB o.k o.key o.v && (decide ((o.e : Int) < 500000003) && decide ((o.s : Int) < 500000003))))) := rfl
  have hbad := Lib.hid (fun h => chk_bad h1 h2 h)
  have hyes := Lib.hid (fun h => chk_ok h1 h2 h)
  clear h1 h2 hrow fo hp1
  generalize chkO o = R at *
  generalize okO o = OK at *
  generalize grp.inG o.au = G at *
  generalize actB o.k o.key o.v = AB at *
  generalize decide ((o.e : Int) < 500000003) = X1 at *
  generalize decide ((o.s : Int) < 500000003) = X2 at *
  go_enter Tryz.func107, Tryz.ntmps107
  generalize hc : (1000000000000 : Int) = c at hok ⊢
  go_upto_region 1 with fail
  rw [← hW]
  clear hW
  go_upto_region 5 with (go_at_call 38; (with_reducible refine (hI.out).mono ?_); rintro e w3 ⟨rfl, h3⟩; have hb3 := Lib.hid h3; clear h3)
  clear c0 c1 c2 hI
  obtain ⟨c0, _, c2, _, _, c9, c10⟩ := hmids.out _ hb3.out
  cases G
  · have e := Lib.hid (hbad.out (by rw [hok]; rfl))
    clear hok hbad hyes
    go_wp2_with (first | (go_at_call 144; (with_reducible refine (hG.out _).mono ?_); rintro e w4 ⟨rfl, rfl⟩) | (go_at_call 145; (with_reducible refine (hA.out _).mono ?_); rintro e w5 ⟨rfl, h5⟩; replace hb3 := Lib.hid (hb3.out.trans (Below.mono (show Below _ _ _ from h5) hb3.out.size)); clear h5; obtain ⟨c0, _, c2, _, _, c9, c10⟩ := hmids.out _ hb3.out) | (go_at_call 146; (first | (with_reducible refine (hE1.out _).mono ?_) | (with_reducible refine (hE2.out _).mono ?_)); rintro e w6 ⟨rfl, rfl⟩) | (refine wpList_midV rfl 31 _ rfl w.heap.size 3 rfl [.int .u8 o.k, .string o.key, .int .u8 o.v.k, .int .i64 o.v.n, .int .u64 (o.v.b : Int), .string o.v.s] _ (hmids.out _ hb3.out).2.2.2.1 Tryz.underlying31 rfl info_act ?_))
    go_ret
    exact ⟨ret_int e.out.symm, hb1.out.trans (hb3.out.mono hb1.out.size)⟩
  by_cases h5 : (o.st : Int) ≤ c
  · have h6 : decide (c < (o.st : Int)) = false := decide_eq_false (by omega)
    cases AB
    · simp only [Bool.false_eq_true, if_false] at hA
      have e := Lib.hid (hbad.out (by rw [hok]; rw [decide_eq_true h5]; rfl))
      clear hok hbad hyes
      go_wp2_with (first | (go_at_call 144; (with_reducible refine (hG.out _).mono ?_); rintro e w4 ⟨rfl, rfl⟩) | (go_at_call 145; (with_reducible refine (hA.out _).mono ?_); rintro e w5 ⟨rfl, h5⟩; replace hb3 := Lib.hid (hb3.out.trans (Below.mono (show Below _ _ _ from h5) hb3.out.size)); clear h5; obtain ⟨c0, _, c2, _, _, c9, c10⟩ := hmids.out _ hb3.out) | (go_at_call 146; (first | (with_reducible refine (hE1.out _).mono ?_) | (with_reducible refine (hE2.out _).mono ?_)); rintro e w6 ⟨rfl, rfl⟩) | (refine wpList_midV rfl 31 _ rfl w.heap.size 3 rfl [.int .u8 o.k, .string o.key, .int .u8 o.v.k, .int .i64 o.v.n, .int .u64 (o.v.b : Int), .string o.v.s] _ (hmids.out _ hb3.out).2.2.2.1 Tryz.underlying31 rfl info_act ?_))
      go_ret
      exact ⟨ret_int e.out.symm, hb1.out.trans (hb3.out.mono hb1.out.size)⟩
    simp only [if_true] at hA
    cases X1
    · have e := Lib.hid (hbad.out (by rw [hok]; rw [decide_eq_true h5]; rfl))
      clear hok hbad hyes
      go_wp2_with (first | (go_at_call 144; (with_reducible refine (hG.out _).mono ?_); rintro e w4 ⟨rfl, rfl⟩) | (go_at_call 145; (with_reducible refine (hA.out _).mono ?_); rintro e w5 ⟨rfl, h5⟩; replace hb3 := Lib.hid (hb3.out.trans (Below.mono (show Below _ _ _ from h5) hb3.out.size)); clear h5; obtain ⟨c0, _, c2, _, _, c9, c10⟩ := hmids.out _ hb3.out) | (go_at_call 146; (first | (with_reducible refine (hE1.out _).mono ?_) | (with_reducible refine (hE2.out _).mono ?_)); rintro e w6 ⟨rfl, rfl⟩) | (refine wpList_midV rfl 31 _ rfl w.heap.size 3 rfl [.int .u8 o.k, .string o.key, .int .u8 o.v.k, .int .i64 o.v.n, .int .u64 (o.v.b : Int), .string o.v.s] _ (hmids.out _ hb3.out).2.2.2.1 Tryz.underlying31 rfl info_act ?_))
      go_ret
      exact ⟨ret_int e.out.symm, hb1.out.trans (hb3.out.mono hb1.out.size)⟩
    cases X2
    · have e := Lib.hid (hbad.out (by rw [hok]; rw [decide_eq_true h5]; rfl))
      clear hok hbad hyes
      go_wp2_with (first | (go_at_call 144; (with_reducible refine (hG.out _).mono ?_); rintro e w4 ⟨rfl, rfl⟩) | (go_at_call 145; (with_reducible refine (hA.out _).mono ?_); rintro e w5 ⟨rfl, h5⟩; replace hb3 := Lib.hid (hb3.out.trans (Below.mono (show Below _ _ _ from h5) hb3.out.size)); clear h5; obtain ⟨c0, _, c2, _, _, c9, c10⟩ := hmids.out _ hb3.out) | (go_at_call 146; (first | (with_reducible refine (hE1.out _).mono ?_) | (with_reducible refine (hE2.out _).mono ?_)); rintro e w6 ⟨rfl, rfl⟩) | (refine wpList_midV rfl 31 _ rfl w.heap.size 3 rfl [.int .u8 o.k, .string o.key, .int .u8 o.v.k, .int .i64 o.v.n, .int .u64 (o.v.b : Int), .string o.v.s] _ (hmids.out _ hb3.out).2.2.2.1 Tryz.underlying31 rfl info_act ?_))
      go_ret
      exact ⟨ret_int e.out.symm, hb1.out.trans (hb3.out.mono hb1.out.size)⟩
    have e := Lib.hid (hyes.out (by rw [hok, decide_eq_true h5]; rfl))
    clear hok hbad hyes
    go_wp2_with (first | (go_at_call 144; (with_reducible refine (hG.out _).mono ?_); rintro e w4 ⟨rfl, rfl⟩) | (go_at_call 145; (with_reducible refine (hA.out _).mono ?_); rintro e w5 ⟨rfl, h5⟩; replace hb3 := Lib.hid (hb3.out.trans (Below.mono (show Below _ _ _ from h5) hb3.out.size)); clear h5; obtain ⟨c0, _, c2, _, _, c9, c10⟩ := hmids.out _ hb3.out) | (go_at_call 146; (first | (with_reducible refine (hE1.out _).mono ?_) | (with_reducible refine (hE2.out _).mono ?_)); rintro e w6 ⟨rfl, rfl⟩) | (refine wpList_midV rfl 31 _ rfl w.heap.size 3 rfl [.int .u8 o.k, .string o.key, .int .u8 o.v.k, .int .i64 o.v.n, .int .u64 (o.v.b : Int), .string o.v.s] _ (hmids.out _ hb3.out).2.2.2.1 Tryz.underlying31 rfl info_act ?_))
    go_ret
    exact ⟨ret_int e.out.symm, hb1.out.trans (hb3.out.mono hb1.out.size)⟩
  · have h6 : decide (c < (o.st : Int)) = true := decide_eq_true (by omega)
    have e := Lib.hid (hbad.out (by rw [hok]; rw [decide_eq_false h5]; rfl))
    clear hok hbad hyes
    go_wp2_with (first | (go_at_call 144; (with_reducible refine (hG.out _).mono ?_); rintro e w4 ⟨rfl, rfl⟩) | (go_at_call 145; (with_reducible refine (hA.out _).mono ?_); rintro e w5 ⟨rfl, h5⟩; replace hb3 := Lib.hid (hb3.out.trans (Below.mono (show Below _ _ _ from h5) hb3.out.size)); clear h5; obtain ⟨c0, _, c2, _, _, c9, c10⟩ := hmids.out _ hb3.out) | (go_at_call 146; (first | (with_reducible refine (hE1.out _).mono ?_) | (with_reducible refine (hE2.out _).mono ?_)); rintro e w6 ⟨rfl, rfl⟩) | (refine wpList_midV rfl 31 _ rfl w.heap.size 3 rfl [.int .u8 o.k, .string o.key, .int .u8 o.v.k, .int .i64 o.v.n, .int .u64 (o.v.b : Int), .string o.v.s] _ (hmids.out _ hb3.out).2.2.2.1 Tryz.underlying31 rfl info_act ?_))
    go_ret
    exact ⟨ret_int e.out.symm, hb1.out.trans (hb3.out.mono hb1.out.size)⟩
end Go.Proofs.YtnknkiiikeefgaaGreatDoor.wir.val

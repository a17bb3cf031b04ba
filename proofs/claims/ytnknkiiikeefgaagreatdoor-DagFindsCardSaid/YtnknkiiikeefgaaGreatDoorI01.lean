/- Lists of ids: what is read, and contracts of what looks whether they increase, and are the same. Contracts of package wire: lists of ids that are written. Contracts of the reference of layer 4: strings and lists that are written. Contracts of package wire: lists of ids that are read. WireIDs' walk. -/
import Derived.Test.YtnknkiiikeefgaaGreatDoorW02
import Derived.Test.YtnknkiiikeefgaaGreatDoorD01h
import Derived.Deep.MidRow
namespace Go
namespace YtnknkiiikeefgaaGreatDoor
open RowKit
def idF (F : List Int) (i : Nat) : List Int := (F.drop (32 * i)).take 32
theorem idF_length (F : List Int) (n i : Nat) (hF : F.length = 32 * n) (hi : i < n) : (idF F i).length = 32 := by
  rw [idF, List.length_take, List.length_drop]; omega
theorem ith_idF (F : List Int) (i k : Nat) (hk : k < 32) : ith (idF F i) k = ith F (32 * i + k) := by
  rw [idF, ith_take _ _ _ hk, ith_drop]
theorem idF_bytes (F : List Int) (i : Nat) (h : Bytes F) : Bytes (idF F i) := fun k => by
  rcases Nat.lt_or_ge k 32 with hk | hk
  · rw [ith_idF _ _ _ hk]; exact h _
  · rw [ith_over _ _ (by rw [idF, List.length_take]; omega)]; omega
theorem take_ids (F : List Int) (i : Nat) : F.take (32 * i) ++ idF F i = F.take (32 * (i + 1)) := by
  rw [idF, Nat.mul_add, Nat.mul_one, List.take_add]
/-- The slice value 'v' reads as 'n' ids whose bytes, one behind the other, are 'F'. -/
def RdI (w : World) (v : Value) (n : Nat) (F : List Int) : Prop :=
  (∃ a c, v = .slice a 0 c ∧ (a = none → c = 0) ∧ n = 0 ∧ F = []) ∨ ∃ b o c, v = .slice (some ⟨b, o, none⟩) n c ∧ n ≤ c ∧ c ≤ maxLen ∧ b < w.heap.size ∧ F.length = 32 * n ∧ ∀ i, i < F.length → w.cell? ⟨b, o + i, none⟩ = some (.int .u8 (ith F i))
theorem RdI.mono {w w' : World} {v : Value} {n : Nat} {F : List Int} (h : RdI w v n F) (hb : Below w.heap.size w w') : RdI w' v n F := by
  rcases h with h | ⟨b, o, c, hv, h1, h2, h3, h4, h5⟩
  · exact .inl h
  · exact .inr ⟨b, o, c, hv, h1, h2, Nat.lt_of_lt_of_le h3 hb.size, h4, fun i hi => by rw [hb.cell (p := (⟨b, o + i, none⟩ : Addr)) h3]; exact h5 i hi⟩
theorem RdI.slice {w : World} {v : Value} {n : Nat} {F : List Int} (h : RdI w v n F) : ∃ a c, v = .slice a n c := by
  rcases h with ⟨a, c, rfl, _, rfl, _⟩ | ⟨b, o, c, hv, _⟩
  · exact ⟨a, c, rfl⟩
  · exact ⟨_, c, hv⟩
theorem RdI.len {w : World} {v : Value} {n : Nat} {F : List Int} (h : RdI w v n F) : F.length = 32 * n := by
  rcases h with ⟨a, c, _, _, rfl, rfl⟩ | ⟨b, o, c, _, _, _, _, h, _⟩
  · rfl
  · exact h
def idV (l : List Int) : List Value := l.map (Value.int .u8)
theorem idV_arr (l : List Int) : (idV l).toArray = u8s l := rfl
theorem idV_length (l : List Int) : (idV l).length = l.length := by simp [idV]
theorem rdI_at {w wr : World} {a : Option Addr} {n c : Nat} {F : List Int} (h : RdI w (.slice a n c) n F) (hb : Below w.heap.size w wr) (i : Nat) (hi : i < n) :
    ∃ b o, a = some ⟨b, o, none⟩ ∧ b < w.heap.size ∧ n ≤ c ∧ wr.rangeAt b (o + i * 32) (idV (idF F i)) ∧ RdB wr (.slice (some ⟨b, o + i * 32, none⟩) 32 32) (idF F i) := by
  rcases h with ⟨a', c', _, _, rfl, _⟩ | ⟨b, o, c', h1, h2, h3, h4, h5, h6⟩
  · omega
  · cases h1
    have hl := idF_length F n i h5 hi
    have hcell : ∀ k, k < 32 → wr.cell? ⟨b, o + i * 32 + k, none⟩ = some (.int .u8 (ith (idF F i) k)) := fun k hk => by
      rw [hb.cell (p := (⟨b, o + i * 32 + k, none⟩ : Addr)) h4, ith_idF _ _ _ hk, show o + i * 32 + k = o + (32 * i + k) by omega]
      exact h6 _ (by omega)
    refine ⟨b, o, rfl, h4, h2, fun j v hv => ?_, .inr ⟨b, o + i * 32, 32, by rw [hl], by omega, by unfold maxLen; omega, Nat.lt_of_lt_of_le h4 hb.size, fun k hk => hcell k (by omega)⟩⟩
    have hj : j < 32 := by
      have := (List.getElem?_eq_some_iff.1 hv).1
      rw [idV_length, hl] at this; exact this
    rw [hcell j hj, ← hv]
    simp [idV, ith, hl, hj]
/-- Do they increase? -/
def riseF (F : List Int) (n : Nat) : Bool := (List.range (n - 1)).all fun i => decide (cmpF (idF F i) (idF F (i + 1)) < 0)
theorem rise_yes {F : List Int} {n : Nat} (h : ∀ i, i + 1 < n → cmpF (idF F i) (idF F (i + 1)) < 0) : riseF F n = true := by
  unfold riseF
  rw [List.all_eq_true]
  intro i hi
  have := List.mem_range.1 hi
  exact decide_eq_true (h i (by omega))
theorem rise_no {F : List Int} {n : Nat} (i : Nat) (hi : i + 1 < n) (h : ¬ cmpF (idF F i) (idF F (i + 1)) < 0) : riseF F n = false := by
  cases hr : riseF F n with
  | false => rfl
  | true =>
    unfold riseF at hr
    rw [List.all_eq_true] at hr
    have := hr i (List.mem_range.2 (by omega))
    simp only [decide_eq_true_eq] at this
    exact absurd this h
theorem range_drewN {w : World} {b o : Nat} {cs : List Value} (h : w.rangeAt b o cs) (n : Nat) : (w.drewN n).rangeAt b o cs := fun j v hv => h j v hv
end YtnknkiiikeefgaaGreatDoor
end Go
namespace Go.Proofs.YtnknkiiikeefgaaGreatDoor.wir
open Go.RowKit Go.YtnknkiiikeefgaaGreatDoor
set_option linter.unusedVariables false
section
variable {P : Program}
theorem qa_load_mid {C : World → Prop} {o : Oper} {a : Act} (ty : TypeId) (x : Operand) (ho : o.op = .load ty x) (b off : Nat) (hx : a.eval x = .pointer (some ⟨b, off, none⟩)) (l : List Int) (d : TypeDesc)
    (hu : P.underlying ty = some d) (hd : d.isRow = true) (hi : (P.info? ty).map (·.size) = some (idV l).length) (hS : ∀ w, C w → w.rangeAt b off (idV l)) : ∀ w, C w → o.quietAt P a C w (.agg (u8s l)) := fun w hw => qa_ok (by
  unfold execOp
  simp only [ho, hx, Instr.loadAt, Instr.sureAddr, Sem.run_bind, Sem.run_pure, Result.andThen_ok, run_loadVar_mid w b off ty (idV l) d (hS w hw) hu hd hi]
  rfl)
end
set_option maxRecDepth 100000 in
theorem increase_any (F : List Int) (n : Nat) (v : Value) (w : World) (hr : RdI w v n F) (hF : Bytes F) (hn : n ≤ 100000) :
    Calls Tryz.prog 139 #[v] w fun e w' => e = .returned (.bool (riseF F n)) ∧ Below w.heap.size w w' := by
  have hlen := Lib.hid hr.len
  obtain ⟨a, c, rfl⟩ := hr.slice
  have hr' := Lib.hid hr; have hF' := Lib.hid hF
  clear hr hF
  go_enter Tryz.func139, Tryz.ntmps139
  go_wp2
  go_loopw [7] (fun i wr => ∃ k : Nat, (k = 0 ∨ k + 1 ≤ n) ∧ i = .int .i64 k ∧ Below w.heap.size w wr ∧ ∀ j, j < k → cmpF (idF F j) (idF F (j + 1)) < 0) (fun i _ => n - (intOf i).toNat)
  case atStart => exact ⟨0, .inl rfl, rfl, Below.refl _ _, fun j hj => absurd hj (Nat.not_lt_zero _)⟩
  case round =>
    obtain ⟨k, hk, rfl, hb, he⟩ := hrel
    have he' := Lib.hid he; have hb' := Lib.hid hb
    clear he hb
    by_cases hlt : k + 1 < n
    · obtain ⟨b, o, rfl, hbw, hnc, q1, _⟩ := rdI_at hr'.out hb'.out k (by omega)
      obtain ⟨b2, o2, hab, _, _, q2, _⟩ := rdI_at hr'.out hb'.out (k + 1) hlt
      cases hab
      have q1' := Lib.hid q1; have q2' := Lib.hid q2
      have l1 := Lib.hid (idF_length F n k hlen.out (by omega))
      have l2 := Lib.hid (idF_length F n (k + 1) hlen.out hlt)
      have hc := Lib.hid (fun wi => cmp_any (idF F k) (idF F (k + 1)) wi l1.out l2.out (idF_bytes F k hF'.out) (idF_bytes F (k + 1) hF'.out))
      have hno := Lib.hid (fun h => rise_no (F := F) (n := n) k hlt h)
      have hyes := Lib.hid (fun (h : cmpF (idF F k) (idF F (k + 1)) < 0) => (show ∀ j, j < k + 1 → cmpF (idF F j) (idF F (j + 1)) < 0 from fun j hj => by
        rcases Nat.lt_or_ge j k with h1 | h1
        · exact he'.out j h1
        · obtain rfl : j = k := by omega
          exact h))
      clear q1 q2 he' hk
      generalize idF F (k + 1) = B at *
      generalize idF F k = A at *
      generalize cmpF A B = T at *
      have x1 : IntKind.i64.wrap ((k : Int) + 1) = (k : Int) + 1 := IntWalk.i64_in _ (by omega)
      have x2 : (0 : Int) ≤ (k : Int) + 1 := by omega
      have x3 : ((k : Int) + 1).toNat = k + 1 := by omega
      have x4 : (k : Int) + 1 < (n : Int) := by omega
      have x5 : k < n := by omega
      have i1 : Hid ((Tryz.prog.info? 24).map (·.size) = some (idV A).length) := Lib.hid (by rw [idV_length, l1.out]; kernel_rfl)
      have i2 : Hid ((Tryz.prog.info? 24).map (·.size) = some (idV B).length) := Lib.hid (by rw [idV_length, l2.out]; kernel_rfl)
      go_wp2
      refine wp_region_headN (C := fun w' => ∃ n, w' = wr.drewN n) 9 [] (by kernel_rfl) (by kernel_rfl) ⟨1, rfl⟩ ?_
      simp only [List.take_succ_cons, List.take_zero, List.drop_succ_cons, List.drop_zero]
      iterate 3 (refine head_walk (by rfl) (fun K hK => ?_); go_simp; refine hK _ ?_; clear hK K)
      refine head_step (.agg (u8s A)) (by rfl) (qa_load_mid 24 _ rfl b (o + k * 32) rfl A _ Tryz.underlying24 rfl i1.out (fun w' ⟨n, h⟩ => h ▸ range_drewN q1'.out n)) (by rfl) rfl (fun K hK => ?_)
      go_simp
      refine hK _ ?_
      clear hK K
      iterate 4 (refine head_walk (by rfl) (fun K hK => ?_); go_simp; refine hK _ ?_; clear hK K)
      refine head_step (.agg (u8s B)) (by rfl) (qa_load_mid 24 _ rfl b (o + (k + 1) * 32) rfl B _ Tryz.underlying24 rfl i2.out (fun w' ⟨n, h⟩ => h ▸ range_drewN q2'.out n)) (by rfl) rfl (fun K hK => ?_)
      go_simp
      refine hK _ ?_
      clear hK K
      refine head_nil ?_
      rintro w' ⟨nz, rfl⟩
      clear x1 x2 x3 x4
      have hbz := Lib.hid (((Draws.refl wr).drewN nz).below hb'.out)
      go_wp2_with (go_at_call 95; (with_reducible refine (hc.out _).mono ?_); rintro e w2 ⟨rfl, hb2⟩; have hB2 := Lib.hid (hbz.out.trans (hb2.mono hbz.out.size)); clear hb2)
      refine NoPanic.normal ?_
      by_cases hT : T < 0
      · have hh := Lib.hid (hyes.out hT)
        go_wp2
        go_roundw
        case rel => exact ⟨k + 1, .inr (by omega), by go_num, hB2.out, hh.out⟩
        case measure => simp [intOf]; omega
      · have hh := Lib.hid (hno.out (by omega))
        go_wp2
        go_ret
        exact ⟨ret_bool hh.out.symm, hB2.out⟩
    · have hh := Lib.hid (rise_yes (F := F) (n := n) (fun i hi => he'.out i (by rcases hk with h | h <;> omega)))
      have hk' : ¬ (k : Int) < (n : Int) - 1 := by omega
      go_wp2
      go_ret
      exact ⟨ret_bool hh.out.symm, hb'.out⟩
set_option maxRecDepth 100000 in
theorem rising_any (F : List Int) (n : Nat) (v : Value) (w : World) (hr : RdI w v n F) (hF : Bytes F) (hn : n ≤ 100000) :
    Calls Tryz.prog 38 #[v] w fun e w' => e = .returned (.bool (riseF F n)) ∧ Below w.heap.size w w' := by
  have hlen := Lib.hid hr.len
  obtain ⟨a, c, rfl⟩ := hr.slice
  have hr' := Lib.hid hr; have hF' := Lib.hid hF
  clear hr hF
  go_enter Tryz.func38, Tryz.ntmps38
  go_wp2
  go_loopw [3] (fun i wr => ∃ k : Nat, (k = 0 ∨ k + 1 ≤ n) ∧ i = .int .i64 ((k : Int) + 1) ∧ Below w.heap.size w wr ∧ ∀ j, j < k → cmpF (idF F j) (idF F (j + 1)) < 0) (fun i _ => n - (intOf i).toNat)
  case atStart => exact ⟨0, .inl rfl, rfl, Below.refl _ _, fun j hj => absurd hj (Nat.not_lt_zero _)⟩
  case round =>
    obtain ⟨k, hk, rfl, hb, he⟩ := hrel
    have he' := Lib.hid he; have hb' := Lib.hid hb
    clear he hb
    by_cases hlt : k + 1 < n
    · obtain ⟨b, o, rfl, hbw, hnc, q1, _⟩ := rdI_at hr'.out hb'.out k (by omega)
      obtain ⟨b2, o2, hab, _, _, q2, _⟩ := rdI_at hr'.out hb'.out (k + 1) hlt
      cases hab
      have q1' := Lib.hid q1; have q2' := Lib.hid q2
      have l1 := Lib.hid (idF_length F n k hlen.out (by omega))
      have l2 := Lib.hid (idF_length F n (k + 1) hlen.out hlt)
      have hc := Lib.hid (fun wi => rcmp_any (idF F k) (idF F (k + 1)) wi l1.out l2.out (idF_bytes F k hF'.out) (idF_bytes F (k + 1) hF'.out))
      have hno := Lib.hid (fun h => rise_no (F := F) (n := n) k hlt h)
      have hyes := Lib.hid (fun (h : cmpF (idF F k) (idF F (k + 1)) < 0) => (show ∀ j, j < k + 1 → cmpF (idF F j) (idF F (j + 1)) < 0 from fun j hj => by
        rcases Nat.lt_or_ge j k with h1 | h1
        · exact he'.out j h1
        · obtain rfl : j = k := by omega
          exact h))
      clear q1 q2 he' hk
      generalize idF F (k + 1) = B at *
      generalize idF F k = A at *
      generalize cmpF A B = T at *
      have x1 : IntKind.i64.wrap (k : Int) = (k : Int) := IntWalk.i64_in _ (by omega)
      have x2 : (0 : Int) ≤ (k : Int) + 1 := by omega
      have x3 : ((k : Int) + 1).toNat = k + 1 := by omega
      have x4 : (k : Int) + 1 < (n : Int) := by omega
      have x5 : k < n := by omega
      have i1 : Hid ((Tryz.prog.info? 24).map (·.size) = some (idV A).length) := Lib.hid (by rw [idV_length, l1.out]; kernel_rfl)
      have i2 : Hid ((Tryz.prog.info? 24).map (·.size) = some (idV B).length) := Lib.hid (by rw [idV_length, l2.out]; kernel_rfl)
      go_wp2
      refine wp_region_headN (C := fun w' => ∃ n, w' = wr.drewN n) 9 [] (by kernel_rfl) (by kernel_rfl) ⟨1, rfl⟩ ?_
      simp only [List.take_succ_cons, List.take_zero, List.drop_succ_cons, List.drop_zero]
      iterate 4 (refine head_walk (by rfl) (fun K hK => ?_); go_simp; refine hK _ ?_; clear hK K)
      refine head_step (.agg (u8s A)) (by rfl) (qa_load_mid 24 _ rfl b (o + k * 32) rfl A _ Tryz.underlying24 rfl i1.out (fun w' ⟨n, h⟩ => h ▸ range_drewN q1'.out n)) (by rfl) rfl (fun K hK => ?_)
      go_simp
      refine hK _ ?_
      clear hK K
      iterate 3 (refine head_walk (by rfl) (fun K hK => ?_); go_simp; refine hK _ ?_; clear hK K)
      refine head_step (.agg (u8s B)) (by rfl) (qa_load_mid 24 _ rfl b (o + (k + 1) * 32) rfl B _ Tryz.underlying24 rfl i2.out (fun w' ⟨n, h⟩ => h ▸ range_drewN q2'.out n)) (by rfl) rfl (fun K hK => ?_)
      go_simp
      refine hK _ ?_
      clear hK K
      refine head_nil ?_
      rintro w' ⟨nz, rfl⟩
      clear x1 x2 x3 x4
      have hbz := Lib.hid (((Draws.refl wr).drewN nz).below hb'.out)
      go_wp2_with (go_at_call 81; (with_reducible refine (hc.out _).mono ?_); rintro e w2 ⟨rfl, hb2⟩; have hB2 := Lib.hid (hbz.out.trans (hb2.mono hbz.out.size)); clear hb2)
      refine NoPanic.normal ?_
      by_cases hT : T < 0
      · have hh := Lib.hid (hyes.out hT)
        go_wp2
        go_roundw
        case rel => exact ⟨k + 1, .inr (by omega), by go_num, hB2.out, hh.out⟩
        case measure => simp [intOf]; omega
      · have hh := Lib.hid (hno.out (by omega))
        go_wp2
        go_ret
        exact ⟨ret_bool hh.out.symm, hB2.out⟩
    · have hh := Lib.hid (rise_yes (F := F) (n := n) (fun i hi => he'.out i (by rcases hk with h | h <;> omega)))
      have hk' : ¬ (k : Int) + 1 < (n : Int) := by omega
      go_wp2
      go_ret
      exact ⟨ret_bool hh.out.symm, hb'.out⟩
theorem ids_ext {F G : List Int} {n : Nat} (hF : F.length = 32 * n) (hG : G.length = 32 * n) (h : ∀ i, i < n → idF F i = idF G i) : F = G := by
  refine ith_ext (by rw [hF, hG]) (fun i hi => ?_)
  have h1 := h (i / 32) (by omega)
  have h2 := ith_idF F (i / 32) (i % 32) (Nat.mod_lt _ (by decide))
  have h3 := ith_idF G (i / 32) (i % 32) (Nat.mod_lt _ (by decide))
  rw [h1, h3] at h2
  rw [show 32 * (i / 32) + i % 32 = i by omega] at h2
  exact h2.symm
theorem sameF_ids {F G : List Int} (k : Nat) (h : idF F k ≠ idF G k) : sameF F G = false := by
  simp only [sameF, decide_eq_false_iff_not]; intro e; exact h (by rw [e])
theorem run_neqArr {P : Program} (w : World) (t elem n : Nat) (ht : P.underlying t = some (.array n elem)) (he : P.underlying elem = some (.int .u8)) (hs : (P.info? elem).map (·.size) = some 1)
    (a b : List Int) (ha : a.length = n) (hb : b.length = n) :
    (binOp .neq t (.agg (u8s a)) (.agg (u8s b))).run P w = .ok (.bool (!decide (a = b))) w := by
  rw [run_neq_struct, run_equalArr w 9998 t elem n ht he hs a b ha hb]
  rfl
set_option maxRecDepth 100000 in
theorem sameIDs_any (n m : Nat) (F G : List Int) (va vb : Value) (w : World) (hn : n ≤ 100000) (h1 : RdI w va n F) (h2 : RdI w vb m G) :
    Calls Tryz.prog 76 #[va, vb] w fun e w' => e = .returned (.bool (sameF F G)) ∧ Draws w w' := by
  have lF := h1.len
  have lG := h2.len
  obtain ⟨a1, c1, rfl⟩ := h1.slice
  obtain ⟨a2, c2, rfl⟩ := h2.slice
  by_cases hlen : n = m
  · subst hlen
    have h1' := Lib.hid h1; have h2' := Lib.hid h2; have lF' := Lib.hid lF; have lG' := Lib.hid lG
    clear h1 h2 lF lG
    go_enter Tryz.func76, Tryz.ntmps76
    go_wp2
    go_loopw [5] (fun i wr => ∃ k : Nat, k ≤ n ∧ i = .int .i64 k ∧ Draws w wr ∧ ∀ j, j < k → idF F j = idF G j) (fun i _ => n - (intOf i).toNat)
    case atStart => exact ⟨0, Nat.zero_le _, rfl, Draws.refl _, fun j hj => absurd hj (Nat.not_lt_zero _)⟩
    case round =>
      obtain ⟨k, hk, rfl, hd, he⟩ := hrel
      have he' := Lib.hid he; clear he
      by_cases hlt : k < n
      · obtain ⟨b1, o1, rfl, _, _, q1, _⟩ := rdI_at h1'.out (hd.below (Below.refl _ _)) k hlt
        obtain ⟨b2, o2, rfl, _, _, q2, _⟩ := rdI_at h2'.out (hd.below (Below.refl _ _)) k hlt
        have q1' := Lib.hid q1; have q2' := Lib.hid q2
        have l1 := Lib.hid (idF_length F n k lF'.out hlt)
        have l2 := Lib.hid (idF_length G n k lG'.out hlt)
        have hno := Lib.hid (fun h => sameF_ids (F := F) (G := G) k h)
        have hyes := Lib.hid (fun (h : idF F k = idF G k) => (show ∀ j, j < k + 1 → idF F j = idF G j from fun j hj => by
          rcases Nat.lt_or_ge j k with h1 | h1
          · exact he'.out j h1
          · obtain rfl : j = k := by omega
            exact h))
        clear q1 q2 he'
        generalize idF G k = B at *
        generalize idF F k = A at *
        have i1 : Hid ((Tryz.prog.info? 24).map (·.size) = some (idV A).length) := Lib.hid (by rw [idV_length, l1.out]; kernel_rfl)
        have i2 : Hid ((Tryz.prog.info? 24).map (·.size) = some (idV B).length) := Lib.hid (by rw [idV_length, l2.out]; kernel_rfl)
        have hq := fun (wz : World) => run_neqArr (P := Tryz.prog) wz 24 5 32 Tryz.underlying24 Tryz.underlying5 (by kernel_rfl) A B l1.out l2.out
        go_wp2
        refine wp_region_headN (C := fun w' => ∃ n, w' = wr.drewN n) 8 [] (by kernel_rfl) (by kernel_rfl) ⟨1, rfl⟩ ?_
        simp only [List.take_succ_cons, List.take_zero, List.drop_succ_cons, List.drop_zero]
        iterate 3 (refine head_walk (by rfl) (fun K hK => ?_); go_simp; refine hK _ ?_; clear hK K)
        refine head_step (.agg (u8s A)) (by rfl) (qa_load_mid 24 _ rfl b1 (o1 + k * 32) rfl A _ Tryz.underlying24 rfl i1.out (fun w' ⟨n, h⟩ => h ▸ range_drewN q1'.out n)) (by rfl) rfl (fun K hK => ?_)
        go_simp
        refine hK _ ?_
        clear hK K
        iterate 3 (refine head_walk (by rfl) (fun K hK => ?_); go_simp; refine hK _ ?_; clear hK K)
        refine head_step (.agg (u8s B)) (by rfl) (qa_load_mid 24 _ rfl b2 (o2 + k * 32) rfl B _ Tryz.underlying24 rfl i2.out (fun w' ⟨n, h⟩ => h ▸ range_drewN q2'.out n)) (by rfl) rfl (fun K hK => ?_)
        go_simp
        refine hK _ ?_
        clear hK K
        refine head_nil ?_
        rintro w' ⟨nz, rfl⟩
        go_wp2
        refine NoPanic.normal ?_
        by_cases hT : A = B
        · have hh := Lib.hid (hyes.out hT)
          rw [decide_eq_true hT]
          clear hT hyes hno hq
          go_wp2
          go_roundw
          case rel => exact ⟨k + 1, by omega, by go_num, hd.drewN _, hh.out⟩
          case measure => simp [intOf]; omega
        · have hh := Lib.hid (hno.out hT)
          rw [decide_eq_false hT]
          clear hT hyes hno hq
          go_wp2
          go_ret
          exact ⟨ret_bool hh.out.symm, hd.drewN _⟩
      · have hkn : k = n := by omega
        have hh := Lib.hid (show sameF F G = true by simp only [sameF, decide_eq_true_eq]; exact ids_ext lF'.out lG'.out (fun i hi => he'.out i (by omega)))
        clear hkn
        go_wp2
        go_ret
        exact ⟨ret_bool hh.out.symm, hd⟩
  · have hs := Lib.hid (show sameF F G = false by simp only [sameF, decide_eq_false_iff_not]; intro e; rw [e] at lF; omega)
    have hbne : ((n : Int) != (m : Int)) = true := by simp; omega
    clear h1 h2 hlen lF lG
    go_enter Tryz.func76, Tryz.ntmps76
    go_wp2
    go_ret
    exact ⟨ret_bool hs.out.symm, Draws.refl _⟩
end Go.Proofs.YtnknkiiikeefgaaGreatDoor.wir
namespace Go
namespace YtnknkiiikeefgaaGreatDoor
open RowKit
/-- The slice value 'v' is the call's own (blocks from 'base' on), and reads as 'n' ids with the bytes 'F'. -/
def OwnI (base : Nat) (E : TypeId) (w : World) (v : Value) (n : Nat) (F : List Int) : Prop := w.ownsRow base E 32 v n (u8v F)
theorem OwnI.nil (w : World) (base : Nat) (E : TypeId) : OwnI base E w (.slice none 0 0) 0 [] := World.ownsRow_nil w base E 32
theorem OwnI.len {base : Nat} {E : TypeId} {w : World} {v : Value} {n : Nat} {F : List Int} (h : OwnI base E w v n F) : F.length = 32 * n := by
  have := h.1
  rw [u8v_length] at this; omega
theorem OwnI.rd {base : Nat} {E : TypeId} {w : World} {v : Value} {n : Nat} {F : List Int} (h : OwnI base E w v n F) : RdI w v n F := by
  have hl := h.len
  rcases h.2 with ⟨rfl, h0⟩ | ⟨g, cap, cur, rfl, hb, hg, hn, hm, hs, ht⟩
  · subst h0
    exact .inl ⟨none, 0, rfl, fun _ => rfl, rfl, List.eq_nil_of_length_eq_zero (by omega)⟩
  · refine .inr ⟨g, 0, cap, rfl, hn, hm, (Array.getElem?_eq_some_iff.1 hg).1, hl, fun i hi => ?_⟩
    have hcell := World.ownsRow.cells (g := g) h rfl i _ (u8v_get F i hi)
    rw [addr_add] at hcell
    exact hcell
theorem OwnI.kept {base : Nat} {E : TypeId} {w w' : World} {v : Value} {n : Nat} {F : List Int} (h : OwnI base E w v n F) (hb : Below w.heap.size w w') : OwnI base E w' v n F := by
  refine ⟨h.1, ?_⟩
  rcases h.2 with hn | ⟨g, cap, cur, rfl, hbg, hg, rest⟩
  · exact .inl hn
  · exact .inr ⟨g, cap, cur, rfl, hbg, (hb.block g (Array.getElem?_eq_some_iff.1 hg).1).trans hg, rest⟩
theorem OwnI.below {base : Nat} {E : TypeId} {w w' : World} {v : Value} {n : Nat} {F : List Int} (h : OwnI base E w v n F) (hg : w.grownBy w' v.ownBlock) (hb : base ≤ w.heap.size) : Below base w w' :=
  Below.grown (Below.refl base w) hg hb (fun k hk => (World.ownsRow.lt h k hk).1)
theorem OwnI.mono {base B : Nat} {E : TypeId} {w : World} {v : Value} {n : Nat} {F : List Int} (h : OwnI base E w v n F) (hB : B ≤ base) : OwnI B E w v n F := by
  refine ⟨h.1, ?_⟩
  rcases h.2 with hn | ⟨g, cap, cur, rfl, hbg, rest⟩
  · exact .inl hn
  · exact .inr ⟨g, cap, cur, rfl, Nat.le_trans hB hbg, rest⟩
section
variable {P : Program}
theorem appendI {ops : Array Oper} {rest : List Oper} {o : Oper} {a : Act} {w : World} {Q : Exit → Act → World → Prop} (hgd : o.guard = none) (s x : Operand) (t : TypeId)
    (ho : o.op = .call { callee := .builtin .append, args := #[s, x], argTypes := #[t, t] })
    (base : Nat) (e : TypeId) (ht : P.underlying t = some (.slice e)) (hinfo : (P.info? e).map (fun i => (i.zero, i.size, i.bytes)) = some (some (.agg (u8s (zerosB 32))), 32, 32))
    (v : Value) (hs : a.eval s = v) (n : Nat) (F : List Int) (hown : OwnI base e w v n F) (g c : Nat) (hx : a.eval x = .slice (some ⟨g, 0, none⟩) 1 c) (A : List Int) (hA : A.length = 32) (E : TypeId) (hrow : w.heap[g]? = some (.cells (u8s A) E (0, 0))) (hlen : n ≤ 1000000) (hbase : base ≤ w.heap.size)
    (h : ∀ v' w', OwnI base e w' v' (n + 1) (F ++ A) → w.grownBy w' v.ownBlock → Stop (wpList P ops Q rest (a.put o.dst v') w')) : wpList P ops Q (o :: rest) a w := by
  refine wpList_plain hgd fun K hK => ?_
  obtain ⟨i, hi, hz, hsz, hb⟩ := info_parts hinfo
  obtain ⟨v', w', hrun, h2, h3, _⟩ := run_append_own (P := P) w base t o.type e i (.agg (u8s (zerosB 32))) 32 32 ht hi hz hsz hb (by simp [Value.cells, u8s_size, zerosB_length]) (by omega) v n (u8v F) hown ⟨g, 0, none⟩ 1 c (u8v A)
    (by rw [u8v_length, hA]) (fun j u hu => by
      have hj : j < A.length := by
        have := (List.getElem?_eq_some_iff.1 hu).1
        rw [u8v_length] at this; exact this
      rw [u8v_get A j hj] at hu
      rw [addr_add, Nat.zero_add, cell_of_row _ _ _ _ _ _ hrow, u8s_get _ _ hj]; exact hu) (u8v_one A) (by unfold maxLen; omega) (by omega) hbase
  unfold Oper.wp execOp
  simp only [ho, resolve, invoke, builtin, Sem.run_bind, Sem.run_pure, Result.andThen_ok, List.map_toArray, List.map_cons, List.map_nil, hs, hx, hrun]
  rw [← u8v_append] at h2
  exact hK _ _ (h v' w' h2 h3).out
end
end YtnknkiiikeefgaaGreatDoor
end Go
namespace Go.Proofs.YtnknkiiikeefgaaGreatDoor.wir
open Go.RowKit Go.YtnknkiiikeefgaaGreatDoor
set_option linter.unusedVariables false
theorem storeNewW {P : Program} {ops : Array Oper} {rest : List Oper} {o : Oper} {a : Act} {Q : Exit → Act → World → Prop} {old : Array Value} (w1 : World) (hgd : o.guard = none) (ty : TypeId) (x y : Operand) (ho : o.op = .store ty x y)
    (cells : Array Value) (t : TypeId) (hx : a.eval x = .pointer (some ⟨w1.heap.size, 0, none⟩)) (hy : a.eval y = .agg cells)
    (hi : (P.info? ty).map (·.size) = some cells.size) (hold : old.size = cells.size) (h1 : cells.all (·.oneCell') = true)
    (h : ∀ wx, wx.heap[w1.heap.size]? = some (.cells cells t (0, 0)) → Below w1.heap.size w1 wx → wpList P ops Q rest (a.put o.dst undef) wx) :
    wpList P ops Q (o :: rest) a (w1.alloc (.cells old t)) := by
  have hg := heap_alloc_new w1 (.cells old t)
  refine wpList_store_row hgd ty x y ho w1.heap.size cells hx hy t old hg hi hold h1 (h _ (setRow_heap _ _ _ _ _ _ hg) ?_)
  exact below_setRow' ((Below.refl _ _).alloc (Nat.le_refl _) _) (Nat.le_refl _) _
/-- The bytes of a list, the first k ids of which are written. -/
def listP (F : List Int) (n k : Nat) : List Int := numB n ++ (F.take (32 * k) ++ zerosB (32 * (n - k)))
theorem listP_length (F : List Int) (n k : Nat) (hF : F.length = 32 * n) (hk : k ≤ n) : (listP F n k).length = numL n + 32 * n := by
  unfold listP
  rw [List.length_append, List.length_append, numB_length, List.length_take, zerosB_length]; omega
theorem listP_step (F : List Int) (n k : Nat) (hF : F.length = 32 * n) (hk : k < n) : overlay (listP F n k) (numL n + 32 * k) (idF F k) = listP F n (k + 1) := by
  have hl : (numB n ++ F.take (32 * k)).length = numL n + 32 * k := by rw [List.length_append, numB_length, List.length_take]; omega
  have hid := idF_length F n k hF hk
  have e : listP F n k = (numB n ++ F.take (32 * k)) ++ zerosB (32 * (n - k)) := by rw [listP, List.append_assoc]
  rw [e]
  unfold overlay
  rw [List.take_left' hl, hid, List.drop_append, List.drop_eq_nil_of_le (by rw [hl]; omega), List.nil_append, hl]
  have hz : (zerosB (32 * (n - k))).drop (numL n + 32 * k + 32 - (numL n + 32 * k)) = zerosB (32 * (n - (k + 1))) := by
    unfold zerosB
    rw [List.drop_replicate]; congr 1; omega
  rw [hz, listP, ← take_ids]
  simp only [List.append_assoc]
theorem listP_all (F : List Int) (n : Nat) (hF : F.length = 32 * n) : listP F n n = numB n ++ F := by
  unfold listP
  rw [Nat.sub_self, Nat.mul_zero, List.take_of_length_le (by omega)]
  simp [zerosB]
theorem ids_many (a : Option Addr) (n c : Nat) (w : World) (hn : 60 < n) :
    Calls Tryz.prog 104 #[.slice a n c] w fun e w' => e = .returned (.tuple #[.slice none 0 0, .int .i64 4]) ∧ w = w' := by
  go_enter Tryz.func104, Tryz.ntmps104
  go_wp2
  go_ret2
  exact ⟨rfl, rfl⟩
theorem ids_order (F : List Int) (n : Nat) (v : Value) (w : World) (hr : RdI w v n F) (hF : Bytes F) (hn : n ≤ 60) (h : riseF F n = false) :
    Calls Tryz.prog 104 #[v] w fun e w' => e = .returned (.tuple #[.slice none 0 0, .int .i64 32]) ∧ Below w.heap.size w w' := by
  have hc := increase_any F n v w hr hF (by omega)
  rw [h] at hc
  have hc' := Lib.hid hc
  obtain ⟨a, c, rfl⟩ := hr.slice
  clear hr hF h hc
  go_enter Tryz.func104, Tryz.ntmps104
  go_wp2_with (go_at_call 139; (with_reducible refine (hc'.out).mono ?_); rintro e w1 ⟨rfl, hb⟩; have hb' := Lib.hid hb; clear hb)
  go_ret2
  exact ⟨rfl, hb'.out⟩
set_option maxRecDepth 100000 in
theorem ids_ok (F : List Int) (n : Nat) (v : Value) (w : World) (hr : RdI w v n F) (hF : Bytes F) (hn : n ≤ 60) (h : riseF F n = true) :
    Calls Tryz.prog 104 #[v] w fun e w' => ∃ g, e = .returned (.tuple #[.slice (some ⟨g, 0, none⟩) (numL n + 32 * n) (numL n + 32 * n), .int .i64 0]) ∧ w.heap.size ≤ g ∧ w'.heap[g]? = some (.cells (u8s (numB n ++ F)) 5 (0, 0)) ∧ Below w.heap.size w w' := by
  have hc := increase_any F n v w hr hF (by omega)
  rw [h] at hc
  have hc' := Lib.hid hc
  have hcn0 := fun wi => counted_any n (32 * n) (by omega) (by omega) wi
  have hlen := Lib.hid hr.len
  have hL9 := numL_le n (by omega)
  have hps := Lib.hid (fun k (hk : k < n) => listP_step F n k hlen.out hk)
  have hpl := Lib.hid (fun k (hk : k ≤ n) => listP_length F n k hlen.out hk)
  have hpa := Lib.hid (listP_all F n hlen.out)
  have hp0 : numB n ++ zerosB (32 * n) = listP F n 0 := by simp [listP]
  simp only [hp0, show ((32 * n : Nat) : Int) = (n : Int) * 32 by omega] at hcn0
  have hcn := Lib.hid hcn0
  obtain ⟨a, c, rfl⟩ := hr.slice
  have hr' := Lib.hid hr
  clear hr hF h hc hcn0 hp0
  generalize numB n ++ F = BF at *
  generalize numL n = L at *
  obtain ⟨T, hT⟩ : ∃ T, L + 32 * n = T := ⟨_, rfl⟩
  rw [hT] at hcn hpl ⊢
  have hTm : T ≤ 3000 := by omega
  go_enter Tryz.func104, Tryz.ntmps104
  go_wp2_with (first
    | (go_at_call 139; (with_reducible refine (hc'.out).mono ?_); rintro e w1 ⟨rfl, hb⟩; have hb' := Lib.hid hb; clear hb)
    | (go_at_call 140; (with_reducible refine (hcn.out _).mono ?_); rintro e w2 ⟨g, rfl, hg, h1, h2, h3, hb⟩; have r1 := Lib.hid h1; have r2 := Lib.hid h2; have r3 := Lib.hid h3; have hg' := Nat.le_trans hb'.out.size hg; have hB := Lib.hid (hb'.out.trans (hb.mono hb'.out.size)); clear h1 h2 h3 hb hg))
  clear hc' hcn hb'
  go_loopw [25] (fun i wr => ∃ k : Nat, k ≤ n ∧ i = .int .i64 k ∧ Below w.heap.size w wr ∧ wr.heap[g]? = some (.cells (u8s (listP F n k)) 5 (0, 0)) ∧ wr.heap[g + 1]? = some (.cells #[.slice (some ⟨g, 0, none⟩) T T] 83 (0, 0)) ∧ wr.heap[g + 2]? = some (.cells #[.int .i64 ((L + 32 * k : Nat) : Int)] 3 (0, 0))) (fun i _ => n - (intOf i).toNat)
  case atStart => exact ⟨0, Nat.zero_le _, rfl, hB.out, r1.out, r2.out, r3.out⟩
  case round =>
    obtain ⟨k, hk, rfl, hb, q1, q2, q3⟩ := hrel
    have hb' := Lib.hid hb; have q1' := Lib.hid q1; have q2' := Lib.hid q2; have q3' := Lib.hid q3
    clear hb q1 q2 q3 r1 r2 r3 hB
    by_cases hlt : k < n
    · obtain ⟨b, o, rfl, hbw, hnc, rng, _⟩ := rdI_at hr'.out hb'.out k hlt
      have rng' := Lib.hid rng
      have l1 := Lib.hid (idF_length F n k hlen.out hlt)
      have hst := Lib.hid (hps.out k hlt)
      have hpk := Lib.hid (hpl.out k hk)
      clear rng
      generalize idF F k = A at *
      generalize listP F n k = PK at *
      have i1 : Hid ((Tryz.prog.info? 24).map (·.size) = some (idV A).length) := Lib.hid (by rw [idV_length, l1.out]; kernel_rfl)
      have i2 : Hid ((Tryz.prog.info? 24).map (·.size) = some (u8s A).size) := Lib.hid (by rw [u8s_size, l1.out]; kernel_rfl)
      have hs := Lib.hid (show 32 = (u8s A).size from by rw [u8s_size, l1.out])
      have hfull := fun wx => run_sliceAt_full (P := Tryz.prog) Tryz.underlying24 (by kernel_rfl) wr.heap.size wx
      go_wp2_with (first
        | (refine wpList_load_mid rfl 24 _ rfl b (o + k * 32) rfl (idV A) _ rng'.out Tryz.underlying24 rfl i1.out ?_; rw [idV_arr])
        | (refine storeNewW wr rfl 24 _ _ rfl (u8s A) 24 rfl rfl i2.out (Eq.trans (by kernel_rfl) hs.out) (u8s_one _) ?_; intro wx hrow hb2; have hrow' := Lib.hid hrow; have hb2' := Lib.hid hb2; clear hrow hb2; refine Stop.go'' _ ?_))
      refine StopP.go ?_
      have hgl : g < wr.heap.size := (Array.getElem?_eq_some_iff.1 q1'.out).1
      have hgl1 : g + 1 < wr.heap.size := (Array.getElem?_eq_some_iff.1 q2'.out).1
      have hgl2 : g + 2 < wr.heap.size := (Array.getElem?_eq_some_iff.1 q3'.out).1
      have hp := Lib.hid (put_any g (L + 32 * k) T PK (.slice (some ⟨wr.heap.size, 0, none⟩) 32 32) A wx hpk.out ((hb2'.out.block _ hgl).trans q1'.out) ((hb2'.out.block _ hgl1).trans q2'.out) ((hb2'.out.block _ hgl2).trans q3'.out) (rdB_row hrow'.out 32 l1.out (by unfold maxLen; omega)) (by rw [l1.out]; omega) (by omega))
      clear hrow'
      go_wp2_with (go_at_call 171; (with_reducible refine (hp.out).mono ?_); rintro e w4 ⟨⟨v4, rfl⟩, s1, s2, s3, hb4⟩; have s1' := Lib.hid s1; have s2' := Lib.hid s2; have s3' := Lib.hid s3; have hb4' := Lib.hid hb4; clear s1 s2 s3 hb4)
      go_roundw
      case rel =>
        refine ⟨k + 1, by omega, by go_num, ?_, ?_, s2'.out, ?_⟩
        · exact hb'.out.trans ((hb2'.out.mono hb'.out.size).trans (hb4'.out.mono hg'))
        · rw [← hst.out]; exact s1'.out
        · have h := s3'.out
          rw [l1.out] at h
          exact h
      case measure => simp [intOf]; omega
    · obtain rfl : k = n := by omega
      rw [hpa.out] at q1'
      go_wp2
      go_ret2
      exact ⟨g, rfl, hg', q1'.out, hb'.out⟩
end Go.Proofs.YtnknkiiikeefgaaGreatDoor.wir
namespace Go.Proofs.YtnknkiiikeefgaaGreatDoor.wir
open Go.RowKit Go.YtnknkiiikeefgaaGreatDoor
set_option linter.unusedVariables false
theorem run_sliceAt_off {P : Program} {t n elem : Nat} (ht : P.underlying t = some (.array n elem)) (hs : (P.info? elem).map (·.size) = some 1) (b o : Nat) (w : World) :
    (Instr.sliceAt t (.pointer (some ⟨b, o, none⟩)) none none none).run P w = .ok (.slice (some ⟨b, o, none⟩) n n) w := by
  cases hq : P.info? elem with
  | none => simp [hq] at hs
  | some inf =>
    simp [Instr.sliceAt, run_underlying ht, Instr.sureAddr, Instr.sliceBounds, sizeOf, typeInfo, hq]
    unfold Addr.add
    simp
set_option maxRecDepth 100000 in
theorem rlist_any (F : List Int) (n : Nat) (v : Value) (w : World) (hr : RdI w v n F) (hn : n ≤ 60) :
    Calls Tryz.prog 184 #[v] w fun e w' => ∃ r, e = .returned r ∧ OwnB w.heap.size 5 w' r (numB n ++ F) ∧ Below w.heap.size w w' := by
  have hnum := Lib.hid (rnum_any n (by omega) w)
  have hlen := Lib.hid hr.len
  have hL9 := numL_le n (by omega)
  have hnl := Lib.hid (numB_length n)
  have hz := Lib.hid (show numB n ++ F.take (32 * 0) = numB n by simp)
  have hall := Lib.hid (show numB n ++ F.take (32 * n) = numB n ++ F by rw [List.take_of_length_le (by rw [hlen.out]; omega)])
  have hst := Lib.hid (fun k => (show (numB n ++ F.take (32 * k)) ++ idF F k = numB n ++ F.take (32 * (k + 1)) by rw [List.append_assoc, take_ids]))
  have hll := Lib.hid (fun k (hk : k ≤ n) => (show (numB n ++ F.take (32 * k)).length = numL n + 32 * k by rw [List.length_append, numB_length, List.length_take, hlen.out]; omega))
  obtain ⟨a, c, rfl⟩ := hr.slice
  have hr' := Lib.hid hr
  clear hr
  generalize hLL : (fun k => numB n ++ F.take (32 * k)) = LF
  have e : ∀ k, numB n ++ F.take (32 * k) = LF k := fun k => by rw [← hLL]
  simp only [e] at hz hall hst hll
  rw [← hz.out] at hnum hnl
  rw [← hall.out]
  clear e hLL hz hall
  generalize numL n = L at *
  go_enter Tryz.func184, Tryz.ntmps184
  go_wp2_with (go_at_call 153; (with_reducible refine (hnum.out).mono ?_); rintro e w1 ⟨r, rfl, ho, hb⟩; have ho' := Lib.hid ho; have hb' := Lib.hid hb; clear ho hb)
  clear hnum
  go_loopw [3, 4] (fun s i wr => ∃ k : Nat, k ≤ n ∧ i = .int .i64 k ∧ OwnB w.heap.size 5 wr s (LF k) ∧ Below w.heap.size w wr) (fun _ i _ => n - (intOf i).toNat)
  case atStart => exact ⟨0, Nat.zero_le _, rfl, ho'.out, hb'.out⟩
  case round =>
    obtain ⟨k, hk, rfl, ho, hb⟩ := hrel
    obtain ⟨sa, sc, rfl⟩ := own_slice ho _ (hll.out k hk)
    have hz := hb.size
    have ho2 := Lib.hid ho; have hb2 := Lib.hid hb
    clear ho hb ho' hb'
    by_cases hlt : k < n
    · obtain ⟨b, o, rfl, hbw, hnc, _, rd⟩ := rdI_at hr'.out hb2.out k hlt
      have rd' := Lib.hid rd
      have l1 := Lib.hid (idF_length F n k hlen.out hlt)
      have hst' := Lib.hid (hst.out k)
      have hl1 := Lib.hid (hll.out (k + 1) hlt)
      have hl0 := Lib.hid (hll.out k hk)
      clear rd
      generalize idF F k = A at *
      have hoff := fun wx => run_sliceAt_off (P := Tryz.prog) Tryz.underlying24 (by kernel_rfl) b (o + k * 32) wx
      go_wp2_with (refine appendB rfl _ _ 83 rfl w.heap.size 5 Tryz.underlying83 (by kernel_rfl) _ rfl (LF k) ho2.out _ rfl A rd'.out (by rw [hl0.out, l1.out]; omega) hz ?_)
      intro v' w' h1 h2
      have hB := Lib.hid (hb2.out.trans (ho2.out.below h2 hz))
      rw [hst'.out] at h1
      obtain ⟨va, vc, rfl⟩ := own_slice h1 _ hl1.out
      have h1' := Lib.hid h1
      clear h1 h2 ho2
      refine Stop.go ?_
      go_wp2
      go_roundw
      case rel => exact ⟨k + 1, by omega, by go_num, h1'.out, hB.out⟩
      case measure => simp [intOf]; omega
    · obtain rfl : k = n := by omega
      go_wp2
      go_ret
      exact ⟨_, rfl, ho2.out, hb2.out⟩
theorem rtext_any (sv : Value) (l : List Int) (w : World) (hr : RdB w sv l) (hl : l.length ≤ 10000) :
    Calls Tryz.prog 185 #[sv] w fun e w' => ∃ r, e = .returned r ∧ OwnB w.heap.size 5 w' r (textB l) ∧ Below w.heap.size w w' := by
  have hnum := Lib.hid (rnum_any l.length (by omega) w)
  have hL9 := numL_le l.length (by omega)
  have hnl := Lib.hid (numB_length l.length)
  have htb := Lib.hid (show numB l.length ++ l = textB l from rfl)
  have hrm := Lib.hid (fun wi (hw : Below w.heap.size w wi) => hr.mono hw)
  obtain ⟨n, hn⟩ : ∃ n, l.length = n := ⟨_, rfl⟩
  have hn' := Lib.hid hn
  obtain ⟨a, c, rfl⟩ := hr.slice
  rw [hn] at hnum hL9 hnl htb hl hrm ⊢
  clear hr hn
  generalize numB n = B at *
  generalize numL n = L at *
  go_enter Tryz.func185, Tryz.ntmps185
  go_wp2_with (first | (go_at_call 153; (with_reducible refine (hnum.out).mono ?_); rintro e w1 ⟨r, rfl, ho, hb⟩; have ho' := Lib.hid ho; have hb' := Lib.hid hb; have rd := Lib.hid (hrm.out _ hb); clear ho hb) | (refine appendB rfl _ _ 83 rfl w.heap.size 5 Tryz.underlying83 (by kernel_rfl) _ rfl B ho'.out _ rfl l rd.out (by rw [hnl.out, hn'.out]; omega) hb'.out.size ?_; intro v' w' h1 h2; have hB := Lib.hid (hb'.out.trans (ho'.out.below h2 hb'.out.size)); rw [htb.out] at h1; have h1' := Lib.hid h1; clear h1 h2; refine Stop.go ?_))
  go_ret
  exact ⟨_, rfl, h1'.out, hB.out⟩
end Go.Proofs.YtnknkiiikeefgaaGreatDoor.wir
namespace Go
namespace YtnknkiiikeefgaaGreatDoor
open RowKit
theorem madeCells_ids (n : Nat) : madeCells (u8s (zerosB 32)) n = u8s (zerosB n) := by
  apply Array.ext
  · rw [size_madeCells, u8s_size, zerosB_length]
  · intro i h1 h2
    have hi : i < n := by rw [size_madeCells] at h1; exact h1
    have hz : ∀ m k, k < m → (u8s (zerosB m))[k]! = Value.int .u8 0 := by
      intro m k hk
      rw [getElem!_pos _ _ (by rw [u8s_size, zerosB_length]; exact hk)]
      simp [u8s, zerosB]
    have h3 : (u8s (zerosB 32)).size = 32 := by rw [u8s_size, zerosB_length]
    simp only [madeCells, Array.getElem_map, Array.getElem_range, h3]
    rw [hz 32 _ (Nat.mod_lt _ (by decide))]
    simp [u8s, zerosB]
section
variable {P : Program}
theorem run_makeI (w : World) (t e : TypeId) (ht : P.underlying t = some (.slice e)) (hinfo : (P.info? e).map (fun i => (i.zero, i.size, i.bytes)) = some (some (.agg (u8s (zerosB 32))), 32, 32))
    (n : Nat) (hn : n ≤ 1000000) :
    (Instr.makeSlice t (.int .i64 (n : Int)) (.int .i64 (n : Int))).run P w = .ok (.slice (some ⟨w.heap.size, 0, none⟩) n n) (w.alloc (.cells (u8s (zerosB (32 * n))) e)) := by
  obtain ⟨i, hi, hz, hs, hb⟩ := info_parts hinfo
  have h := run_make (P := P) w t e i (.agg (u8s (zerosB 32))) ht hi hz .i64 .i64 (n : Int) (n : Int) (by omega) (by omega) (by rw [hb]; omega) (by omega)
  rw [h, hs]
  simp only [Int.toNat_natCast, Value.cells]
  rw [madeCells_ids, Nat.mul_comm]
/-- Copying as many bytes as the place has, out of a slice that has more. -/
theorem copyB_part {ops : Array Oper} {rest : List Oper} {o : Oper} {a : Act} {w : World} {Q : Exit → Act → World → Prop} (hgd : o.guard = none) (d s : Operand) (dT sT : TypeId)
    (ho : o.op = .call { callee := .builtin .copy, args := #[d, s], argTypes := #[dT, sT] }) (elem : TypeId) (hu : P.underlying dT = some (.slice elem)) (hsz : (P.info? elem).map (·.size) = some 1)
    (g off dLen dCap : Nat) (hd : a.eval d = .slice (some ⟨g, off, none⟩) dLen dCap) (sv : Value) (hs : a.eval s = sv) (r : List Int) (hr : RdB w sv r) (h0 : 0 < dLen)
    (cs : List Int) (t : TypeId) (hg : w.heap[g]? = some (.cells (u8s cs) t (0, 0))) (hle : dLen ≤ r.length) (hfit : off + dLen ≤ cs.length)
    (h : ∀ w', Hid (w' = w.setRow g (u8s (overlay cs off (r.take dLen)))) → Stop (wpList P ops Q rest (a.put o.dst (goInt dLen)) w')) : wpList P ops Q (o :: rest) a w := by
  have h := (h _ (show _ = _ from rfl)).out
  rcases hr with ⟨sa, sc, rfl, _, rfl⟩ | ⟨b, o', c, rfl, h1, h2, h3, h4⟩
  · simp at hle; omega
  · have hl : (r.take dLen).length = dLen := by rw [List.length_take]; omega
    refine wpList_copy_own hgd d s dT sT ho elem hu hsz g off dLen dCap ⟨b, o', none⟩ r.length c hd hs (u8s cs) t hg (u8v (r.take dLen)) (by rw [u8v_length, hl]; exact (Nat.min_eq_right hle).symm)
      (RdB.src (fun i hi => by rw [hl] at hi; rw [ith_take _ _ _ hi]; exact h4 i (by omega))) (by rw [u8v_length, u8s_size, hl]; exact hfit) (u8v_one _) ?_
    rw [u8v_length, hl]
    have e : ((u8s cs).toList.take off ++ (u8v (r.take dLen) ++ (u8s cs).toList.drop (off + dLen))).toArray = u8s (overlay cs off (r.take dLen)) := by
      rw [overlay, hl]
      simp [u8s, u8v]
    rw [e]; exact h
end
end YtnknkiiikeefgaaGreatDoor
end Go
namespace Go.Proofs.YtnknkiiikeefgaaGreatDoor.wir
open Go.RowKit Go.YtnknkiiikeefgaaGreatDoor
set_option linter.unusedVariables false
theorem rdI_row {w : World} {g : Nat} {F : List Int} {E : TypeId} (hg : w.heap[g]? = some (.cells (u8s F) E (0, 0))) (n : Nat) (hF : F.length = 32 * n) (hn : n ≤ 1000000) : RdI w (.slice (some ⟨g, 0, none⟩) n n) n F :=
  .inr ⟨g, 0, n, rfl, Nat.le_refl _, by unfold maxLen; omega, (Array.getElem?_eq_some_iff.1 hg).1, hF, fun i hi => by
    rw [Nat.zero_add, cell_of_row _ _ _ _ _ _ hg]; exact u8s_get _ _ hi⟩
/-- A row after k ids. -/
def idsP (F : List Int) (n k : Nat) : List Int := F.take (32 * k) ++ zerosB (32 * (n - k))
theorem idsP_length (F : List Int) (n k : Nat) (hF : F.length = 32 * n) (hk : k ≤ n) : (idsP F n k).length = 32 * n := by
  rw [idsP, List.length_append, List.length_take, zerosB_length]; omega
theorem idsP_step (F : List Int) (n k : Nat) (hF : F.length = 32 * n) (hk : k < n) : overlay (idsP F n k) (32 * k) (idF F k) = idsP F n (k + 1) := by
  have hl : (F.take (32 * k)).length = 32 * k := by rw [List.length_take]; omega
  have hid := idF_length F n k hF hk
  unfold overlay idsP
  rw [List.take_left' hl, hid, List.drop_append, List.drop_eq_nil_of_le (by rw [hl]; omega), List.nil_append, hl]
  have hz : (zerosB (32 * (n - k))).drop (32 * k + 32 - 32 * k) = zerosB (32 * (n - (k + 1))) := by
    unfold zerosB
    rw [List.drop_replicate]; congr 1; omega
  rw [hz, ← take_ids, List.append_assoc]
theorem idsP_all (F : List Int) (n : Nat) (hF : F.length = 32 * n) : idsP F n n = F := by
  unfold idsP
  rw [Nat.sub_self, Nat.mul_zero, List.take_of_length_le (by omega)]
  simp [zerosB]
theorem idsP_zero (F : List Int) (n : Nat) : idsP F n 0 = zerosB (32 * n) := by simp [idsP]
theorem readIDs_arg (bv : Value) (most : Int) (hm : most < 0) (w : World) :
    Calls Tryz.prog 155 #[bv, .int .i64 most] w fun e w' => e = .returned (.tuple #[.slice none 0 0, .int .i64 0, .int .i64 2]) ∧ w = w' := by
  have hc := Lib.hid (readCounted_arg bv most hm 32 w)
  go_enter Tryz.func155, Tryz.ntmps155
  go_wp2_with (go_at_call 188; (with_reducible refine (hc.out).mono ?_); rintro e w1 ⟨rfl, rfl⟩)
  go_ret3
  exact ⟨rfl, rfl⟩
theorem readIDs_no (l : List Int) (bv : Value) (most : Int) (h0 : 0 ≤ most) (hmx : most ≤ 9223372036854775807) (w : World) (hr : RdB w bv l) (hl : Bytes l) (hlm : l.length ≤ 1000000) (h : readC l most 32 = none) :
    Calls Tryz.prog 155 #[bv, .int .i64 most] w fun e w' => e = .returned (.tuple #[.slice none 0 0, .int .i64 0, .int .i64 12]) ∧ w = w' := by
  have hc0 := readCounted_no l bv most h0 hmx 32 (by omega) (by omega) w hr hl hlm h
  rw [show ((32 : Nat) : Int) = 32 from rfl] at hc0
  have hc := Lib.hid hc0
  clear hc0
  obtain ⟨a, c, rfl⟩ := hr.slice
  clear hr hl h
  go_enter Tryz.func155, Tryz.ntmps155
  go_wp2_with (go_at_call 188; (with_reducible refine (hc.out).mono ?_); rintro e w1 ⟨rfl, rfl⟩)
  go_ret3
  exact ⟨rfl, rfl⟩
/-- What is read: where it increases, and where it doesn't. -/
def readIDsPost (w : World) (F : List Int) (n used : Nat) (e : Ending) (w' : World) : Prop :=
  Below w.heap.size w w' ∧ if riseF F n = true then e = .returned (.tuple #[.slice (some ⟨w.heap.size, 0, none⟩) n n, .int .i64 (used : Nat), .int .i64 0]) ∧ w'.heap[w.heap.size]? = some (.cells (u8s F) 24 (0, 0)) else e = .returned (.tuple #[.slice none 0 0, .int .i64 0, .int .i64 12])
set_option maxRecDepth 100000 in
theorem readIDs_ok (l : List Int) (bv : Value) (most : Int) (h0 : 0 ≤ most) (hmx : most ≤ 9223372036854775807) (w : World) (hr : RdB w bv l) (hl : Bytes l) (hlm : l.length ≤ 1000000) (n u : Nat) (h : readC l most 32 = some (n, u)) :
    Calls Tryz.prog 155 #[bv, .int .i64 most] w (readIDsPost w ((l.drop u).take (n * 32)) n (u + n * 32)) := by
  have hc0 := readCounted_ok l bv most h0 hmx 32 (by omega) (by omega) w hr hl hlm n u h
  rw [show ((32 : Nat) : Int) = 32 from rfl] at hc0
  have hc := Lib.hid hc0
  obtain ⟨hre, g1, g2⟩ := readC_some h
  have hul := (readF_some hl hre).2.2.1
  have hn6 : n * 32 ≤ 1000000 := by omega
  have hlen := Lib.hid (show ((l.drop u).take (n * 32)).length = 32 * n by rw [List.length_take, List.length_drop]; omega)
  have hFb := Lib.hid (show Bytes ((l.drop u).take (n * 32)) from bytes_take _ _ (bytes_drop l u hl))
  obtain ⟨a, c, rfl⟩ := hr.slice
  clear hr hl h hre g1 g2 hul hc0
  generalize l.length = LL at *
  generalize (l.drop u).take (n * 32) = F at *
  have hps := Lib.hid (fun k (hk : k < n) => idsP_step F n k hlen.out hk)
  have hpl := Lib.hid (fun k (hk : k ≤ n) => idsP_length F n k hlen.out hk)
  have hpa := Lib.hid (idsP_all F n hlen.out)
  have hmk := fun (wx : World) => run_makeI (P := Tryz.prog) wx 26 24 Tryz.underlying26 (by kernel_rfl) n (by omega)
  have hrow := heap_alloc_new w (.cells (u8s (zerosB (32 * n))) 24)
  rw [← idsP_zero F n] at hrow
  have hrow' := Lib.hid hrow
  have hB0 := Lib.hid (below_a1 w (.cells (u8s (zerosB (32 * n))) 24))
  rw [idsP_zero F n] at hrow'
  obtain ⟨V, hV⟩ : ∃ V, n * 32 = V := ⟨_, rfl⟩
  rw [hV] at hc hn6 ⊢
  have hdiv : (V : Int) / 32 = (n : Int) := by omega
  have hVc := Lib.hid hV
  have hz0 := Lib.hid (idsP_zero F n)
  clear hV hrow
  go_enter Tryz.func155, Tryz.ntmps155
  go_wp2_with (go_at_call 188; (with_reducible refine (hc.out).mono ?_); rintro e w1 ⟨A, C, rfl, hrd, rfl⟩; have hrd' := Lib.hid hrd; clear hrd)
  generalize hW : w.alloc (.cells (u8s (zerosB (32 * n))) 24) = W at *
  have hW' := Lib.hid hW
  clear hW hc hmk
  go_loopw [28] (fun i wr => ∃ k : Nat, k ≤ n ∧ i = .int .i64 k ∧ Below w.heap.size w wr ∧ wr.heap[w.heap.size]? = some (.cells (u8s (idsP F n k)) 24 (0, 0))) (fun i _ => n - (intOf i).toNat)
  case atStart => exact ⟨0, Nat.zero_le _, rfl, hB0.out, by rw [hz0.out]; exact hrow'.out⟩
  case round =>
    obtain ⟨k, hk, rfl, hb, q1⟩ := hrel
    have hb' := Lib.hid hb; have q1' := Lib.hid q1
    clear hb q1 hB0 hrow'
    by_cases hlt : k < n
    · have hkV : k * 32 + 32 ≤ V := by have := hVc.out; omega
      have hVC : V ≤ C := rdB_cap hrd'.out
      obtain ⟨b, o, hA, hbw⟩ : ∃ b o, A = some ⟨b, o, none⟩ ∧ b < w.heap.size := by
        obtain ⟨b, o, h1, h2, _⟩ := rdB_at hrd'.out 0 (by rw [hlen.out]; omega)
        exact ⟨b, o, h1, h2⟩
      subst hA
      have rs := Lib.hid ((rdB_sub hrd'.out (k * 32) (V - k * 32) (C - k * 32) (by omega) (by omega) (by omega)).mono hb'.out)
      have rsl := Lib.hid (show ((F.drop (k * 32)).take (V - k * 32)).length = V - k * 32 by rw [List.length_take, List.length_drop, hlen.out]; have := hVc.out; omega)
      have rst := Lib.hid (show ((F.drop (k * 32)).take (V - k * 32)).take 32 = idF F k by rw [List.take_take, Nat.min_eq_left (by omega), idF, Nat.mul_comm])
      have hst := Lib.hid (hps.out k hlt)
      have hpk := Lib.hid (hpl.out k hk)
      generalize (F.drop (k * 32)).take (V - k * 32) = R at *
      generalize idsP F n k = PK at *
      have hoff := fun wx => run_sliceAt_off (P := Tryz.prog) Tryz.underlying24 (by kernel_rfl) w.heap.size (k * 32) wx
      have x1 : IntKind.i64.wrap ((k : Int) * 32) = (k : Int) * 32 := IntWalk.i64_in _ (by omega)
      have x2 : (0 : Int) ≤ (k : Int) * 32 := by omega
      have x3 : ((k : Int) * 32).toNat = k * 32 := by omega
      have x4 : (k : Int) * 32 ≤ (V : Int) := by omega
      have x5 : k * 32 ≤ V := by omega
      have x6 : ¬ C = k * 32 := by omega
      have x7 : k * 32 ≤ C := by omega
      have x8 : k ≤ 31250 := by omega
      go_wp2
      refine wp_region_headN (C := fun w' => ∃ n, w' = wr.drewN n) 8 [] (by kernel_rfl) (by kernel_rfl) ⟨1, rfl⟩ ?_
      simp only [List.take_succ_cons, List.take_zero, List.drop_succ_cons, List.drop_zero]
      repeat (refine head_walk (by rfl) (fun K hK => ?_); go_simp; refine hK _ ?_; clear hK K)
      refine head_nil ?_
      rintro w' ⟨nz, rfl⟩
      have rs2 := Lib.hid (draws_rdB ((Draws.refl wr).drewN nz) rs.out)
      have q2 := Lib.hid (show (wr.drewN nz).heap[w.heap.size]? = some (.cells (u8s PK) 24 (0, 0)) from q1'.out)
      have hb2 := Lib.hid (((Draws.refl wr).drewN nz).below hb'.out)
      clear x1 x2 x3 x4 x5 x6 x7 x8 hoff rs q1' hb'
      generalize wr.drewN nz = wz at *
      go_wp2_with (refine copyB_part rfl _ _ 83 83 rfl 5 Tryz.underlying83 (by kernel_rfl) w.heap.size (k * 32) 32 32 rfl _ rfl R rs2.out (by omega) PK 24 q2.out (by rw [rsl.out]; omega) (by rw [hpk.out]; omega) ?_)
      intro w5 hw5
      have q5 := Lib.hid (show w5.heap[w.heap.size]? = some (.cells (u8s (idsP F n (k + 1))) 24 (0, 0)) by rw [hw5.out, rst.out, Nat.mul_comm k 32, hst.out]; exact setRow_heap _ _ _ _ _ _ q2.out)
      have hb5 := Lib.hid (show Below w.heap.size w w5 by rw [hw5.out]; exact below_setRow' hb2.out (Nat.le_refl _) _)
      clear hw5
      refine Stop.go ?_
      go_wp2
      refine NoPanic.normal ?_
      go_wp2
      go_roundw
      case rel => exact ⟨k + 1, by omega, by go_num, hb5.out, q5.out⟩
      case measure => simp [intOf]; omega
    · obtain rfl : k = n := by omega
      rw [hpa.out] at q1'
      have hinc := Lib.hid (increase_any F k (.slice (some ⟨w.heap.size, 0, none⟩) k k) wr (rdI_row q1'.out k hlen.out (by omega)) hFb.out (by omega))
      cases hri : riseF F k
      · rw [hri] at hinc
        go_wp2_with (go_at_call 139; (with_reducible refine (hinc.out).mono ?_); rintro e w6 ⟨rfl, hb6⟩; have hb6' := Lib.hid hb6; clear hb6)
        go_ret3
        exact ⟨hb'.out.trans (hb6'.out.mono hb'.out.size), by rw [if_neg (by rw [hri]; decide)]; rfl⟩
      · rw [hri] at hinc
        go_wp2_with (go_at_call 139; (with_reducible refine (hinc.out).mono ?_); rintro e w6 ⟨rfl, hb6⟩; have hb6' := Lib.hid hb6; clear hb6)
        go_ret3
        refine ⟨hb'.out.trans (hb6'.out.mono hb'.out.size), ?_⟩
        rw [if_pos hri]
        exact ⟨rfl, (hb6'.out.block _ (Array.getElem?_eq_some_iff.1 q1'.out).1).trans q1'.out⟩
end Go.Proofs.YtnknkiiikeefgaaGreatDoor.wir
namespace Go.Proofs.YtnknkiiikeefgaaGreatDoor.wir
open Go.RowKit Go.YtnknkiiikeefgaaGreatDoor
set_option linter.unusedVariables false
theorem readC_list (F b : List Int) (n : Nat) (hF : F.length = 32 * n) (hn : n ≤ 60) : readC ((numB n ++ F) ++ b) 60 32 = some (n, numL n) := by
  have h := readF_num n (by omega) (F ++ b)
  rw [← List.append_assoc] at h
  unfold readC
  rw [h]
  have h2 : ((n : Nat) : Int) ≤ 60 ∧ n ≤ (((numB n ++ F) ++ b).length - numL n) / 32 := by
    refine ⟨by omega, ?_⟩
    rw [List.length_append, List.length_append, numB_length]; omega
  simp only [h2, and_self, if_true]
theorem list_part (F b : List Int) (n : Nat) (hF : F.length = 32 * n) : (((numB n ++ F) ++ b).drop (numL n)).take (n * 32) = F := by
  rw [List.append_assoc, List.drop_left' (numB_length _), List.take_left' (by rw [hF]; omega)]
theorem readC_cutI (F : List Int) (n : Nat) (hF : F.length = 32 * n) (hn : n ≤ 60) : readC ((numB n ++ F).take (numL n + 32 * n - 1)) 60 32 = none := by
  by_cases h0 : n = 0
  · subst h0
    obtain rfl : F = [] := List.eq_nil_of_length_eq_zero (by omega)
    rfl
  · have h1 : (numB n ++ F).take (numL n + 32 * n - 1) = numB n ++ F.take (32 * n - 1) := by
      rw [List.take_append, numB_length, List.take_of_length_le (by rw [numB_length]; omega)]
      congr 2; omega
    rw [h1]
    unfold readC
    rw [readF_num n (by omega)]
    have h2 : ¬ ((n : Int) ≤ 60 ∧ n ≤ ((numB n ++ F.take (32 * n - 1)).length - numL n) / 32) := by
      rw [List.length_append, numB_length, List.length_take]; omega
    simp only [h2, if_false]
theorem readC_backI {b : List Int} (hb : Bytes b) {n u : Nat} (h : readC b 60 32 = some (n, u)) : b.take (u + n * 32) = numB n ++ (b.drop u).take (n * 32) ∧ ((b.drop u).take (n * 32)).length = 32 * n ∧ 1 ≤ u ∧ u + n * 32 ≤ b.length ∧ n ≤ 60 := by
  obtain ⟨h1, h2, h3⟩ := readC_some h
  obtain ⟨a1, a2, a3, a4⟩ := readF_some hb h1
  have hlen : ((b.drop u).take (n * 32)).length = 32 * n := by rw [List.length_take, List.length_drop]; omega
  refine ⟨?_, hlen, by rw [a2]; exact numL_pos n, by omega, by omega⟩
  rw [← a4, List.take_add]
/-- What ReadIDs answers to any bytes. -/
def AnsNo (w : World) (bv : Value) : Prop := ∀ wi, Below w.heap.size w wi → Calls Tryz.prog 155 #[bv, .int .i64 60] wi fun e w' => e = .returned (.tuple #[.slice none 0 0, .int .i64 0, .int .i64 12]) ∧ Below wi.heap.size wi w'
structure AnsYes (w : World) (bv : Value) (b : List Int) (n V : Nat) (F : List Int) : Prop where
  len : F.length = 32 * n
  byt : Bytes F
  n60 : n ≤ 60
  rise : riseF F n = true
  tak : b.take V = numB n ++ F
  pos : 1 ≤ V
  le : V ≤ b.length
  ans : ∀ wi, Below w.heap.size w wi → Calls Tryz.prog 155 #[bv, .int .i64 60] wi fun e w' => e = .returned (.tuple #[.slice (some ⟨wi.heap.size, 0, none⟩) n n, .int .i64 (V : Nat), .int .i64 0]) ∧ w'.heap[wi.heap.size]? = some (.cells (u8s F) 24 (0, 0)) ∧ Below wi.heap.size wi w'
theorem readIDs_ans (b : List Int) (bv : Value) (w : World) (hr : RdB w bv b) (hb : Bytes b) (hl : b.length ≤ 1000000) : AnsNo w bv ∨ ∃ n V F, AnsYes w bv b n V F := by
  cases hc : readC b 60 32 with
  | none => exact .inl fun wi hw => (readIDs_no b bv 60 (by omega) (by omega) wi (hr.mono hw) hb hl hc).mono fun e w' ⟨h1, h2⟩ => ⟨h1, by subst h2; exact Below.refl _ _⟩
  | some p =>
    obtain ⟨n, u⟩ := p
    obtain ⟨d1, d2, d3, d4, d5⟩ := readC_backI hb hc
    have hok := fun wi (hw : Below w.heap.size w wi) => readIDs_ok b bv 60 (by omega) (by omega) wi (hr.mono hw) hb hl n u hc
    cases hri : riseF ((b.drop u).take (n * 32)) n with
    | false =>
      exact .inl fun wi hw => (hok wi hw).mono fun e w' h => by
        unfold readIDsPost at h
        rw [if_neg (by rw [hri]; decide)] at h
        exact ⟨h.2, h.1⟩
    | true =>
      exact .inr ⟨n, u + n * 32, _, d2, bytes_take _ _ (bytes_drop b u hb), d5, hri, d1, by omega, d4, fun wi hw => (hok wi hw).mono fun e w' h => by
        unfold readIDsPost at h
        rw [if_pos hri] at h
        exact ⟨h.2.1, h.2.2, h.1⟩⟩
/-- For a list that increases: what reading its bytes gives back. -/
theorem readIDs_back (F b : List Int) (n : Nat) (hF : F.length = 32 * n) (hFb : Bytes F) (hb : Bytes b) (hn : n ≤ 60) (hri : riseF F n = true) (hl : b.length ≤ 2000) (v : Value) (w : World) (hr : RdB w v ((numB n ++ F) ++ b)) :
    Calls Tryz.prog 155 #[v, .int .i64 60] w fun e w' => e = .returned (.tuple #[.slice (some ⟨w.heap.size, 0, none⟩) n n, .int .i64 ((numL n + 32 * n : Nat) : Int), .int .i64 0]) ∧ w'.heap[w.heap.size]? = some (.cells (u8s F) 24 (0, 0)) ∧ Below w.heap.size w w' := by
  have h := readIDs_ok ((numB n ++ F) ++ b) v 60 (by omega) (by omega) w hr (bytes_append _ _ (bytes_append _ _ (numB_bytes n (by omega)) hFb) hb) (by rw [List.length_append, List.length_append, numB_length, hF]; have := numL_le n (by omega); omega) n (numL n) (readC_list F b n hF hn)
  rw [list_part F b n hF] at h
  refine h.mono fun e w' h => ?_
  unfold readIDsPost at h
  rw [if_pos hri] at h
  refine ⟨?_, h.2.2, h.1⟩
  rw [h.2.1, Nat.mul_comm n 32]
theorem readIDs_cut (F : List Int) (n : Nat) (hF : F.length = 32 * n) (hFb : Bytes F) (hn : n ≤ 60) (v : Value) (w : World) (hr : RdB w v ((numB n ++ F).take (numL n + 32 * n - 1))) :
    Calls Tryz.prog 155 #[v, .int .i64 60] w fun e w' => e = .returned (.tuple #[.slice none 0 0, .int .i64 0, .int .i64 12]) ∧ w = w' :=
  readIDs_no _ v 60 (by omega) (by omega) w hr (bytes_take _ _ (bytes_append _ _ (numB_bytes n (by omega)) hFb)) (by rw [List.length_take, List.length_append, numB_length, hF]; have := numL_le n (by omega); omega) (readC_cutI F n hF hn)
end Go.Proofs.YtnknkiiikeefgaaGreatDoor.wir

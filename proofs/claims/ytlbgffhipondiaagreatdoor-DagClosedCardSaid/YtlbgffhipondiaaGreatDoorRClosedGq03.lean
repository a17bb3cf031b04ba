/- Texts that the row stands on, part 3. -/
import Derived.Test.YtlbgffhipondiaaGreatDoorRClosedGq02
namespace Go
namespace YtlbgffhipondiaaGreatDoor
open RowKit
def idF (F : List Int) (i : Nat) : List Int := (F.drop (32 * i)).take 32
theorem idF_length (F : List Int) (n i : Nat) (hF : F.length = 32 * n) (hi : i < n) : (idF F i).length = 32 := by
  rw [idF, List.length_take, List.length_drop]; omega
theorem ith_idF (F : List Int) (i k : Nat) (hk : k < 32) : ith (idF F i) k = ith F (32 * i + k) := by
  rw [idF, ith_take _ _ _ hk, ith_drop]
theorem idF_bytes (F : List Int) (i : Nat) (h : Bytes F) : Bytes (idF F i) := fun k => by
  rcases Nat.lt_or_ge k 32 with hk | hk
  · rw [ith_idF _ _ _ hk]; exact h _
  · rw [ith_over _ _ (by rw [idF, List.length_take]; omega)]; omega
theorem take_ids (F : List Int) (i : Nat) : F.take (32 * i) ++ idF F i = F.take (32 * (i + 1)) := by
  rw [idF, Nat.mul_add, Nat.mul_one, List.take_add]
/-- The slice value 'v' reads as' 'n' ids whose bytes, one behind the other, are 'F'. -/
def RdI (w : World) (v : Value) (n : Nat) (F : List Int) : Prop :=
  (∃ a c, v = .slice a 0 c ∧ (a = none → c = 0) ∧ n = 0 ∧ F = []) ∨ ∃ b o c, v = .slice (some ⟨b, o, none⟩) n c ∧ n ≤ c ∧ c ≤ maxLen ∧ b < w.heap.size ∧ F.length = 32 * n ∧ ∀ i, i < F.length → w.cell? ⟨b, o + i, none⟩ = some (.int .u8 (ith F i))
theorem RdI.mono {w w' : World} {v : Value} {n : Nat} {F : List Int} (h : RdI w v n F) (hb : Below w.heap.size w w') : RdI w' v n F := by
  rcases h with h | ⟨b, o, c, hv, h1, h2, h3, h4, h5⟩
  · exact .inl h
  · exact .inr ⟨b, o, c, hv, h1, h2, Nat.lt_of_lt_of_le h3 hb.size, h4, fun i hi => by rw [hb.cell (p := (⟨b, o + i, none⟩ : Addr)) h3]; exact h5 i hi⟩
theorem RdI.slice {w : World} {v : Value} {n : Nat} {F : List Int} (h : RdI w v n F) : ∃ a c, v = .slice a n c := by
  rcases h with ⟨a, c, rfl, _, rfl, _⟩ | ⟨b, o, c, hv, _⟩
  · exact ⟨a, c, rfl⟩
  · exact ⟨_, c, hv⟩
theorem RdI.len {w : World} {v : Value} {n : Nat} {F : List Int} (h : RdI w v n F) : F.length = 32 * n := by
  rcases h with ⟨a, c, _, _, rfl, rfl⟩ | ⟨b, o, c, _, _, _, _, h, _⟩
  · rfl
  · exact h
def idV (l : List Int) : List Value := l.map (Value.int .u8)
theorem idV_arr (l : List Int) : (idV l).toArray = u8s l := rfl
theorem idV_length (l : List Int) : (idV l).length = l.length := by simp [idV]
theorem rdI_at {w wr : World} {a : Option Addr} {n c : Nat} {F : List Int} (h : RdI w (.slice a n c) n F) (hb : Below w.heap.size w wr) (i : Nat) (hi : i < n) :
    ∃ b o, a = some ⟨b, o, none⟩ ∧ b < w.heap.size ∧ n ≤ c ∧ wr.rangeAt b (o + i * 32) (idV (idF F i)) ∧ RdB wr (.slice (some ⟨b, o + i * 32, none⟩) 32 32) (idF F i) := by
  rcases h with ⟨a', c', _, _, rfl, _⟩ | ⟨b, o, c', h1, h2, h3, h4, h5, h6⟩
  · omega
  · cases h1
    have hl := idF_length F n i h5 hi
    have hcell : ∀ k, k < 32 → wr.cell? ⟨b, o + i * 32 + k, none⟩ = some (.int .u8 (ith (idF F i) k)) := fun k hk => by
      rw [hb.cell (p := (⟨b, o + i * 32 + k, none⟩ : Addr)) h4, ith_idF _ _ _ hk, show o + i * 32 + k = o + (32 * i + k) by omega]
      exact h6 _ (by omega)
    refine ⟨b, o, rfl, h4, h2, fun j v hv => ?_, .inr ⟨b, o + i * 32, 32, by rw [hl], by omega, by unfold maxLen; omega, Nat.lt_of_lt_of_le h4 hb.size, fun k hk => hcell k (by omega)⟩⟩
    have hj : j < 32 := by
      have := (List.getElem?_eq_some_iff.1 hv).1
      rw [idV_length, hl] at this; exact this
    rw [hcell j hj, ← hv]
    simp [idV, ith, hl, hj]
/-- Do they increase? -/
def riseF (F : List Int) (n : Nat) : Bool := (List.range (n - 1)).all fun i => decide (cmpF (idF F i) (idF F (i + 1)) < 0)
theorem rise_yes {F : List Int} {n : Nat} (h : ∀ i, i + 1 < n → cmpF (idF F i) (idF F (i + 1)) < 0) : riseF F n = true := by
  unfold riseF
  rw [List.all_eq_true]
  intro i hi
  have := List.mem_range.1 hi
  exact decide_eq_true (h i (by omega))
theorem rise_no {F : List Int} {n : Nat} (i : Nat) (hi : i + 1 < n) (h : ¬ cmpF (idF F i) (idF F (i + 1)) < 0) : riseF F n = false := by
  cases hr : riseF F n with
  | false => rfl
  | true =>
    unfold riseF at hr
    rw [List.all_eq_true] at hr
    have := hr i (List.mem_range.2 (by omega))
    simp only [decide_eq_true_eq] at this
    exact absurd this h
theorem range_drewN {w : World} {b o : Nat} {cs : List Value} (h : w.rangeAt b o cs) (n : Nat) : (w.drewN n).rangeAt b o cs := fun j v hv => h j v hv
end YtlbgffhipondiaaGreatDoor
end Go
namespace Go.Proofs.YtlbgffhipondiaaGreatDoor.wir
open Go.RowKit Go.YtlbgffhipondiaaGreatDoor
set_option linter.unusedVariables false
section
variable {P : Program}
theorem qa_load_mid {C : World → Prop} {o : Oper} {a : Act} (ty : TypeId) (x : Operand) (ho : o.op = .load ty x) (b off : Nat) (hx : a.eval x = .pointer (some ⟨b, off, none⟩)) (l : List Int) (d : TypeDesc)
    (hu : P.underlying ty = some d) (hd : d.isRow = true) (hi : (P.info? ty).map (·.size) = some (idV l).length) (hS : ∀ w, C w → w.rangeAt b off (idV l)) : ∀ w, C w → o.quietAt P a C w (.agg (u8s l)) := fun w hw => qa_ok (by
  unfold execOp
  simp only [ho, hx, Instr.loadAt, Instr.sureAddr, Sem.run_bind, Sem.run_pure, Result.andThen_ok, run_loadVar_mid w b off ty (idV l) d (hS w hw) hu hd hi]
  rfl)
end
set_option maxRecDepth 100000 in
theorem increase_any (F : List Int) (n : Nat) (v : Value) (w : World) (hr : RdI w v n F) (hF : Bytes F) (hn : n ≤ 100000) :
    Calls Tryz.prog 170 #[v] w fun e w' => e = .returned (.bool (riseF F n)) ∧ Below w.heap.size w w' := by
  have hlen := Lib.hid hr.len
  obtain ⟨a, c, rfl⟩ := hr.slice
  have hr' := Lib.hid hr; have hF' := Lib.hid hF
  clear hr hF
  go_enter Tryz.func170, Tryz.ntmps170
  go_wp2
  go_loopw [7] (fun i wr => ∃ k : Nat, (k = 0 ∨ k + 1 ≤ n) ∧ i = .int .i64 k ∧ Below w.heap.size w wr ∧ ∀ j, j < k → cmpF (idF F j) (idF F (j + 1)) < 0) (fun i _ => n - (intOf i).toNat)
  case atStart => exact ⟨0, .inl rfl, rfl, Below.refl _ _, fun j hj => absurd hj (Nat.not_lt_zero _)⟩
  case round =>
    obtain ⟨k, hk, rfl, hb, he⟩ := hrel
    have he' := Lib.hid he; have hb' := Lib.hid hb
    clear he hb
    by_cases hlt : k + 1 < n
    · obtain ⟨b, o, rfl, hbw, hnc, q1, _⟩ := rdI_at hr'.out hb'.out k (by omega)
      obtain ⟨b2, o2, hab, _, _, q2, _⟩ := rdI_at hr'.out hb'.out (k + 1) hlt
      cases hab
      have q1' := Lib.hid q1; have q2' := Lib.hid q2
      have l1 := Lib.hid (idF_length F n k hlen.out (by omega))
      have l2 := Lib.hid (idF_length F n (k + 1) hlen.out hlt)
      have hc := Lib.hid (fun wi => cmp_any (idF F k) (idF F (k + 1)) wi l1.out l2.out (idF_bytes F k hF'.out) (idF_bytes F (k + 1) hF'.out))
      have hno := Lib.hid (fun h => rise_no (F := F) (n := n) k hlt h)
      have hyes := Lib.hid (fun (h : cmpF (idF F k) (idF F (k + 1)) < 0) => (show ∀ j, j < k + 1 → cmpF (idF F j) (idF F (j + 1)) < 0 from fun j hj => by
        rcases Nat.lt_or_ge j k with h1 | h1
        · exact he'.out j h1
        · obtain rfl : j = k := by omega
          exact h))
      clear q1 q2 he' hk
      generalize idF F (k + 1) = B at *
      generalize idF F k = A at *
      generalize cmpF A B = T at *
      have x1 : IntKind.i64.wrap ((k : Int) + 1) = (k : Int) + 1 := IntWalk.i64_in _ (by omega)
      have x2 : (0 : Int) ≤ (k : Int) + 1 := by omega
      have x3 : ((k : Int) + 1).toNat = k + 1 := by omega
      have x4 : (k : Int) + 1 < (n : Int) := by omega
      have x5 : k < n := by omega
      have i1 : Hid ((Tryz.prog.info? 24).map (·.size) = some (idV A).length) := Lib.hid (by rw [idV_length, l1.out]; kernel_rfl)
      have i2 : Hid ((Tryz.prog.info? 24).map (·.size) = some (idV B).length) := Lib.hid (by rw [idV_length, l2.out]; kernel_rfl)
      go_wp2
      refine wp_region_headN (C := fun w' => ∃ n, w' = wr.drewN n) 9 [] (by kernel_rfl) (by kernel_rfl) ⟨1, rfl⟩ ?_
      simp only [List.take_succ_cons, List.take_zero, List.drop_succ_cons, List.drop_zero]
      iterate 3 (refine head_walk (by rfl) (fun K hK => ?_); go_simp; refine hK _ ?_; clear hK K)
      refine head_step (.agg (u8s A)) (by rfl) (qa_load_mid 24 _ rfl b (o + k * 32) rfl A _ Tryz.underlying24 rfl i1.out (fun w' ⟨n, h⟩ => h ▸ range_drewN q1'.out n)) (by rfl) rfl (fun K hK => ?_)
      go_simp
      refine hK _ ?_
      clear hK K
      iterate 4 (refine head_walk (by rfl) (fun K hK => ?_); go_simp; refine hK _ ?_; clear hK K)
      refine head_step (.agg (u8s B)) (by rfl) (qa_load_mid 24 _ rfl b (o + (k + 1) * 32) rfl B _ Tryz.underlying24 rfl i2.out (fun w' ⟨n, h⟩ => h ▸ range_drewN q2'.out n)) (by rfl) rfl (fun K hK => ?_)
      go_simp
      refine hK _ ?_
      clear hK K
      refine head_nil ?_
      rintro w' ⟨nz, rfl⟩
      clear x1 x2 x3 x4
      have hbz := Lib.hid (((Draws.refl wr).drewN nz).below hb'.out)
      go_wp2_with (go_at_call 98; (with_reducible refine (hc.out _).mono ?_); rintro e w2 ⟨rfl, hb2⟩; have hB2 := Lib.hid (hbz.out.trans (hb2.mono hbz.out.size)); clear hb2)
      refine NoPanic.normal ?_
      by_cases hT : T < 0
      · have hh := Lib.hid (hyes.out hT)
        go_wp2
        go_roundw
        case rel => exact ⟨k + 1, .inr (by omega), by go_num, hB2.out, hh.out⟩
        case measure => simp [intOf]; omega
      · have hh := Lib.hid (hno.out (by omega))
        go_wp2
        go_ret
        exact ⟨ret_bool hh.out.symm, hB2.out⟩
    · have hh := Lib.hid (rise_yes (F := F) (n := n) (fun i hi => he'.out i (by rcases hk with h | h <;> omega)))
      have hk' : ¬ (k : Int) < (n : Int) - 1 := by omega
      go_wp2
      go_ret
      exact ⟨ret_bool hh.out.symm, hb'.out⟩
set_option maxRecDepth 100000 in
theorem rising_any (F : List Int) (n : Nat) (v : Value) (w : World) (hr : RdI w v n F) (hF : Bytes F) (hn : n ≤ 100000) :
    Calls Tryz.prog 36 #[v] w fun e w' => e = .returned (.bool (riseF F n)) ∧ Below w.heap.size w w' := by
  have hlen := Lib.hid hr.len
  obtain ⟨a, c, rfl⟩ := hr.slice
  have hr' := Lib.hid hr; have hF' := Lib.hid hF
  clear hr hF
  go_enter Tryz.func36, Tryz.ntmps36
  go_wp2
  go_loopw [3] (fun i wr => ∃ k : Nat, (k = 0 ∨ k + 1 ≤ n) ∧ i = .int .i64 ((k : Int) + 1) ∧ Below w.heap.size w wr ∧ ∀ j, j < k → cmpF (idF F j) (idF F (j + 1)) < 0) (fun i _ => n - (intOf i).toNat)
  case atStart => exact ⟨0, .inl rfl, rfl, Below.refl _ _, fun j hj => absurd hj (Nat.not_lt_zero _)⟩
  case round =>
    obtain ⟨k, hk, rfl, hb, he⟩ := hrel
    have he' := Lib.hid he; have hb' := Lib.hid hb
    clear he hb
    by_cases hlt : k + 1 < n
    · obtain ⟨b, o, rfl, hbw, hnc, q1, _⟩ := rdI_at hr'.out hb'.out k (by omega)
      obtain ⟨b2, o2, hab, _, _, q2, _⟩ := rdI_at hr'.out hb'.out (k + 1) hlt
      cases hab
      have q1' := Lib.hid q1; have q2' := Lib.hid q2
      have l1 := Lib.hid (idF_length F n k hlen.out (by omega))
      have l2 := Lib.hid (idF_length F n (k + 1) hlen.out hlt)
      have hc := Lib.hid (fun wi => rcmp_any (idF F k) (idF F (k + 1)) wi l1.out l2.out (idF_bytes F k hF'.out) (idF_bytes F (k + 1) hF'.out))
      have hno := Lib.hid (fun h => rise_no (F := F) (n := n) k hlt h)
      have hyes := Lib.hid (fun (h : cmpF (idF F k) (idF F (k + 1)) < 0) => (show ∀ j, j < k + 1 → cmpF (idF F j) (idF F (j + 1)) < 0 from fun j hj => by
        rcases Nat.lt_or_ge j k with h1 | h1
        · exact he'.out j h1
        · obtain rfl : j = k := by omega
          exact h))
      clear q1 q2 he' hk
      generalize idF F (k + 1) = B at *
      generalize idF F k = A at *
      generalize cmpF A B = T at *
      have x1 : IntKind.i64.wrap (k : Int) = (k : Int) := IntWalk.i64_in _ (by omega)
      have x2 : (0 : Int) ≤ (k : Int) + 1 := by omega
      have x3 : ((k : Int) + 1).toNat = k + 1 := by omega
      have x4 : (k : Int) + 1 < (n : Int) := by omega
      have x5 : k < n := by omega
      have i1 : Hid ((Tryz.prog.info? 24).map (·.size) = some (idV A).length) := Lib.hid (by rw [idV_length, l1.out]; kernel_rfl)
      have i2 : Hid ((Tryz.prog.info? 24).map (·.size) = some (idV B).length) := Lib.hid (by rw [idV_length, l2.out]; kernel_rfl)
      go_wp2
      refine wp_region_headN (C := fun w' => ∃ n, w' = wr.drewN n) 9 [] (by kernel_rfl) (by kernel_rfl) ⟨1, rfl⟩ ?_
      simp only [List.take_succ_cons, List.take_zero, List.drop_succ_cons, List.drop_zero]
      iterate 4 (refine head_walk (by rfl) (fun K hK => ?_); go_simp; refine hK _ ?_; clear hK K)
      refine head_step (.agg (u8s A)) (by rfl) (qa_load_mid 24 _ rfl b (o + k * 32) rfl A _ Tryz.underlying24 rfl i1.out (fun w' ⟨n, h⟩ => h ▸ range_drewN q1'.out n)) (by rfl) rfl (fun K hK => ?_)
      go_simp
      refine hK _ ?_
      clear hK K
      iterate 3 (refine head_walk (by rfl) (fun K hK => ?_); go_simp; refine hK _ ?_; clear hK K)
      refine head_step (.agg (u8s B)) (by rfl) (qa_load_mid 24 _ rfl b (o + (k + 1) * 32) rfl B _ Tryz.underlying24 rfl i2.out (fun w' ⟨n, h⟩ => h ▸ range_drewN q2'.out n)) (by rfl) rfl (fun K hK => ?_)
      go_simp
      refine hK _ ?_
      clear hK K
      refine head_nil ?_
      rintro w' ⟨nz, rfl⟩
      clear x1 x2 x3 x4
      have hbz := Lib.hid (((Draws.refl wr).drewN nz).below hb'.out)
      go_wp2_with (go_at_call 61; (with_reducible refine (hc.out _).mono ?_); rintro e w2 ⟨rfl, hb2⟩; have hB2 := Lib.hid (hbz.out.trans (hb2.mono hbz.out.size)); clear hb2)
      refine NoPanic.normal ?_
      by_cases hT : T < 0
      · have hh := Lib.hid (hyes.out hT)
        go_wp2
        go_roundw
        case rel => exact ⟨k + 1, .inr (by omega), by go_num, hB2.out, hh.out⟩
        case measure => simp [intOf]; omega
      · have hh := Lib.hid (hno.out (by omega))
        go_wp2
        go_ret
        exact ⟨ret_bool hh.out.symm, hB2.out⟩
    · have hh := Lib.hid (rise_yes (F := F) (n := n) (fun i hi => he'.out i (by rcases hk with h | h <;> omega)))
      have hk' : ¬ (k : Int) + 1 < (n : Int) := by omega
      go_wp2
      go_ret
      exact ⟨ret_bool hh.out.symm, hb'.out⟩
theorem ids_ext {F G : List Int} {n : Nat} (hF : F.length = 32 * n) (hG : G.length = 32 * n) (h : ∀ i, i < n → idF F i = idF G i) : F = G := by
  refine ith_ext (by rw [hF, hG]) (fun i hi => ?_)
  have h1 := h (i / 32) (by omega)
  have h2 := ith_idF F (i / 32) (i % 32) (Nat.mod_lt _ (by decide))
  have h3 := ith_idF G (i / 32) (i % 32) (Nat.mod_lt _ (by decide))
  rw [h1, h3] at h2
  rw [show 32 * (i / 32) + i % 32 = i by omega] at h2
  exact h2.symm
theorem sameF_ids {F G : List Int} (k : Nat) (h : idF F k ≠ idF G k) : sameF F G = false := by
  simp only [sameF, decide_eq_false_iff_not]; intro e; exact h (by rw [e])
theorem run_neqArr {P : Program} (w : World) (t elem n : Nat) (ht : P.underlying t = some (.array n elem)) (he : P.underlying elem = some (.int .u8)) (hs : (P.info? elem).map (·.size) = some 1)
    (a b : List Int) (ha : a.length = n) (hb : b.length = n) :
    (binOp .neq t (.agg (u8s a)) (.agg (u8s b))).run P w = .ok (.bool (!decide (a = b))) w := by
  rw [run_neq_struct, run_equalArr w 9998 t elem n ht he hs a b ha hb]
  rfl
set_option maxRecDepth 100000 in
theorem sameIDs_any (n m : Nat) (F G : List Int) (va vb : Value) (w : World) (hn : n ≤ 100000) (h1 : RdI w va n F) (h2 : RdI w vb m G) :
    Calls Tryz.prog 51 #[va, vb] w fun e w' => e = .returned (.bool (sameF F G)) ∧ Draws w w' := by
  have lF := h1.len
  have lG := h2.len
  obtain ⟨a1, c1, rfl⟩ := h1.slice
  obtain ⟨a2, c2, rfl⟩ := h2.slice
  by_cases hlen : n = m
  · subst hlen
    have h1' := Lib.hid h1; have h2' := Lib.hid h2; have lF' := Lib.hid lF; have lG' := Lib.hid lG
    clear h1 h2 lF lG
    go_enter Tryz.func51, Tryz.ntmps51
    go_wp2
    go_loopw [5] (fun i wr => ∃ k : Nat, k ≤ n ∧ i = .int .i64 k ∧ Draws w wr ∧ ∀ j, j < k → idF F j = idF G j) (fun i _ => n - (intOf i).toNat)
    case atStart => exact ⟨0, Nat.zero_le _, rfl, Draws.refl _, fun j hj => absurd hj (Nat.not_lt_zero _)⟩
    case round =>
      obtain ⟨k, hk, rfl, hd, he⟩ := hrel
      have he' := Lib.hid he; clear he
      by_cases hlt : k < n
      · obtain ⟨b1, o1, rfl, _, _, q1, _⟩ := rdI_at h1'.out (hd.below (Below.refl _ _)) k hlt
        obtain ⟨b2, o2, rfl, _, _, q2, _⟩ := rdI_at h2'.out (hd.below (Below.refl _ _)) k hlt
        have q1' := Lib.hid q1; have q2' := Lib.hid q2
        have l1 := Lib.hid (idF_length F n k lF'.out hlt)
        have l2 := Lib.hid (idF_length G n k lG'.out hlt)
        have hno := Lib.hid (fun h => sameF_ids (F := F) (G := G) k h)
        have hyes := Lib.hid (fun (h : idF F k = idF G k) => (show ∀ j, j < k + 1 → idF F j = idF G j from fun j hj => by
          rcases Nat.lt_or_ge j k with h1 | h1
          · exact he'.out j h1
          · obtain rfl : j = k := by omega
            exact h))
        clear q1 q2 he'
        generalize idF G k = B at *
        generalize idF F k = A at *
        have i1 : Hid ((Tryz.prog.info? 24).map (·.size) = some (idV A).length) := Lib.hid (by rw [idV_length, l1.out]; kernel_rfl)
        have i2 : Hid ((Tryz.prog.info? 24).map (·.size) = some (idV B).length) := Lib.hid (by rw [idV_length, l2.out]; kernel_rfl)
        have hq := fun (wz : World) => run_neqArr (P := Tryz.prog) wz 24 5 32 Tryz.underlying24 Tryz.underlying5 (by kernel_rfl) A B l1.out l2.out
        go_wp2
        refine wp_region_headN (C := fun w' => ∃ n, w' = wr.drewN n) 8 [] (by kernel_rfl) (by kernel_rfl) ⟨1, rfl⟩ ?_
        simp only [List.take_succ_cons, List.take_zero, List.drop_succ_cons, List.drop_zero]
        iterate 3 (refine head_walk (by rfl) (fun K hK => ?_); go_simp; refine hK _ ?_; clear hK K)
        refine head_step (.agg (u8s A)) (by rfl) (qa_load_mid 24 _ rfl b1 (o1 + k * 32) rfl A _ Tryz.underlying24 rfl i1.out (fun w' ⟨n, h⟩ => h ▸ range_drewN q1'.out n)) (by rfl) rfl (fun K hK => ?_)
        go_simp
        refine hK _ ?_
        clear hK K
        iterate 3 (refine head_walk (by rfl) (fun K hK => ?_); go_simp; refine hK _ ?_; clear hK K)
        refine head_step (.agg (u8s B)) (by rfl) (qa_load_mid 24 _ rfl b2 (o2 + k * 32) rfl B _ Tryz.underlying24 rfl i2.out (fun w' ⟨n, h⟩ => h ▸ range_drewN q2'.out n)) (by rfl) rfl (fun K hK => ?_)
        go_simp
        refine hK _ ?_
        clear hK K
        refine head_nil ?_
        rintro w' ⟨nz, rfl⟩
        go_wp2
        refine NoPanic.normal ?_
        by_cases hT : A = B
        · have hh := Lib.hid (hyes.out hT)
          rw [decide_eq_true hT]
          clear hT hyes hno hq
          go_wp2
          go_roundw
          case rel => exact ⟨k + 1, by omega, by go_num, hd.drewN _, hh.out⟩
          case measure => simp [intOf]; omega
        · have hh := Lib.hid (hno.out hT)
          rw [decide_eq_false hT]
          clear hT hyes hno hq
          go_wp2
          go_ret
          exact ⟨ret_bool hh.out.symm, hd.drewN _⟩
      · have hkn : k = n := by omega
        have hh := Lib.hid (show sameF F G = true by simp only [sameF, decide_eq_true_eq]; exact ids_ext lF'.out lG'.out (fun i hi => he'.out i (by omega)))
        clear hkn
        go_wp2
        go_ret
        exact ⟨ret_bool hh.out.symm, hd⟩
  · have hs := Lib.hid (show sameF F G = false by simp only [sameF, decide_eq_false_iff_not]; intro e; rw [e] at lF; omega)
    have hbne : ((n : Int) != (m : Int)) = true := by simp; omega
    clear h1 h2 hlen lF lG
    go_enter Tryz.func51, Tryz.ntmps51
    go_wp2
    go_ret
    exact ⟨ret_bool hs.out.symm, Draws.refl _⟩
end Go.Proofs.YtlbgffhipondiaaGreatDoor.wir
namespace Go
namespace YtlbgffhipondiaaGreatDoor
open RowKit
/-- The slice value 'v' is the call's own (blocks from 'base' on), and reads as' 'n' ids with the bytes 'F'. -/
def OwnI (base : Nat) (E : TypeId) (w : World) (v : Value) (n : Nat) (F : List Int) : Prop := w.ownsRow base E 32 v n (u8v F)
theorem OwnI.nil (w : World) (base : Nat) (E : TypeId) : OwnI base E w (.slice none 0 0) 0 [] := World.ownsRow_nil w base E 32
theorem OwnI.len {base : Nat} {E : TypeId} {w : World} {v : Value} {n : Nat} {F : List Int} (h : OwnI base E w v n F) : F.length = 32 * n := by
  have := h.1
  rw [u8v_length] at this; omega
theorem OwnI.rd {base : Nat} {E : TypeId} {w : World} {v : Value} {n : Nat} {F : List Int} (h : OwnI base E w v n F) : RdI w v n F := by
  have hl := h.len
  rcases h.2 with ⟨rfl, h0⟩ | ⟨g, cap, cur, rfl, hb, hg, hn, hm, hs, ht⟩
  · subst h0
    exact .inl ⟨none, 0, rfl, fun _ => rfl, rfl, List.eq_nil_of_length_eq_zero (by omega)⟩
  · refine .inr ⟨g, 0, cap, rfl, hn, hm, (Array.getElem?_eq_some_iff.1 hg).1, hl, fun i hi => ?_⟩
    have hcell := World.ownsRow.cells (g := g) h rfl i _ (u8v_get F i hi)
    rw [addr_add] at hcell
    exact hcell
theorem OwnI.kept {base : Nat} {E : TypeId} {w w' : World} {v : Value} {n : Nat} {F : List Int} (h : OwnI base E w v n F) (hb : Below w.heap.size w w') : OwnI base E w' v n F := by
  refine ⟨h.1, ?_⟩
  rcases h.2 with hn | ⟨g, cap, cur, rfl, hbg, hg, rest⟩
  · exact .inl hn
  · exact .inr ⟨g, cap, cur, rfl, hbg, (hb.block g (Array.getElem?_eq_some_iff.1 hg).1).trans hg, rest⟩
theorem OwnI.below {base : Nat} {E : TypeId} {w w' : World} {v : Value} {n : Nat} {F : List Int} (h : OwnI base E w v n F) (hg : w.grownBy w' v.ownBlock) (hb : base ≤ w.heap.size) : Below base w w' :=
  Below.grown (Below.refl base w) hg hb (fun k hk => (World.ownsRow.lt h k hk).1)
theorem OwnI.mono {base B : Nat} {E : TypeId} {w : World} {v : Value} {n : Nat} {F : List Int} (h : OwnI base E w v n F) (hB : B ≤ base) : OwnI B E w v n F := by
  refine ⟨h.1, ?_⟩
  rcases h.2 with hn | ⟨g, cap, cur, rfl, hbg, rest⟩
  · exact .inl hn
  · exact .inr ⟨g, cap, cur, rfl, Nat.le_trans hB hbg, rest⟩
section
variable {P : Program}
end
end YtlbgffhipondiaaGreatDoor
end Go
namespace Go.Proofs.YtlbgffhipondiaaGreatDoor.wir
open Go.RowKit Go.YtlbgffhipondiaaGreatDoor
set_option linter.unusedVariables false
theorem storeNewW {P : Program} {ops : Array Oper} {rest : List Oper} {o : Oper} {a : Act} {Q : Exit → Act → World → Prop} {old : Array Value} (w1 : World) (hgd : o.guard = none) (ty : TypeId) (x y : Operand) (ho : o.op = .store ty x y)
    (cells : Array Value) (t : TypeId) (hx : a.eval x = .pointer (some ⟨w1.heap.size, 0, none⟩)) (hy : a.eval y = .agg cells)
    (hi : (P.info? ty).map (·.size) = some cells.size) (hold : old.size = cells.size) (h1 : cells.all (·.oneCell') = true)
    (h : ∀ wx, wx.heap[w1.heap.size]? = some (.cells cells t (0, 0)) → Below w1.heap.size w1 wx → wpList P ops Q rest (a.put o.dst undef) wx) :
    wpList P ops Q (o :: rest) a (w1.alloc (.cells old t)) := by
  have hg := heap_alloc_new w1 (.cells old t)
  refine wpList_store_row hgd ty x y ho w1.heap.size cells hx hy t old hg hi hold h1 (h _ (setRow_heap _ _ _ _ _ _ hg) ?_)
  exact below_setRow' ((Below.refl _ _).alloc (Nat.le_refl _) _) (Nat.le_refl _) _
/-- The bytes of a list, the first k ids of which are written. -/
def listP (F : List Int) (n k : Nat) : List Int := numB n ++ (F.take (32 * k) ++ zerosB (32 * (n - k)))
theorem listP_length (F : List Int) (n k : Nat) (hF : F.length = 32 * n) (hk : k ≤ n) : (listP F n k).length = numL n + 32 * n := by
  unfold listP
  rw [List.length_append, List.length_append, numB_length, List.length_take, zerosB_length]; omega
theorem listP_step (F : List Int) (n k : Nat) (hF : F.length = 32 * n) (hk : k < n) : overlay (listP F n k) (numL n + 32 * k) (idF F k) = listP F n (k + 1) := by
  have hl : (numB n ++ F.take (32 * k)).length = numL n + 32 * k := by rw [List.length_append, numB_length, List.length_take]; omega
  have hid := idF_length F n k hF hk
  have e : listP F n k = (numB n ++ F.take (32 * k)) ++ zerosB (32 * (n - k)) := by rw [listP, List.append_assoc]
  rw [e]
  unfold overlay
  rw [List.take_left' hl, hid, List.drop_append, List.drop_eq_nil_of_le (by rw [hl]; omega), List.nil_append, hl]
  have hz : (zerosB (32 * (n - k))).drop (numL n + 32 * k + 32 - (numL n + 32 * k)) = zerosB (32 * (n - (k + 1))) := by
    unfold zerosB
    rw [List.drop_replicate]; congr 1; omega
  rw [hz, listP, ← take_ids]
  simp only [List.append_assoc]
theorem listP_all (F : List Int) (n : Nat) (hF : F.length = 32 * n) : listP F n n = numB n ++ F := by
  unfold listP
  rw [Nat.sub_self, Nat.mul_zero, List.take_of_length_le (by omega)]
  simp [zerosB]
set_option maxRecDepth 100000 in
theorem ids_ok (F : List Int) (n : Nat) (v : Value) (w : World) (hr : RdI w v n F) (hF : Bytes F) (hn : n ≤ 60) (h : riseF F n = true) :
    Calls Tryz.prog 128 #[v] w fun e w' => ∃ g, e = .returned (.tuple #[.slice (some ⟨g, 0, none⟩) (numL n + 32 * n) (numL n + 32 * n), .int .i64 0]) ∧ w.heap.size ≤ g ∧ w'.heap[g]? = some (.cells (u8s (numB n ++ F)) 5 (0, 0)) ∧ Below w.heap.size w w' := by
  have hc := increase_any F n v w hr hF (by omega)
  rw [h] at hc
  have hc' := Lib.hid hc
  have hcn0 := fun wi => counted_any n (32 * n) (by omega) (by omega) wi
  have hlen := Lib.hid hr.len
  have hL9 := numL_le n (by omega)
  have hps := Lib.hid (fun k (hk : k < n) => listP_step F n k hlen.out hk)
  have hpl := Lib.hid (fun k (hk : k ≤ n) => listP_length F n k hlen.out hk)
  have hpa := Lib.hid (listP_all F n hlen.out)
  have hp0 : numB n ++ zerosB (32 * n) = listP F n 0 := by simp [listP]
  simp only [hp0, show ((32 * n : Nat) : Int) = (n : Int) * 32 by omega] at hcn0
  have hcn := Lib.hid hcn0
  obtain ⟨a, c, rfl⟩ := hr.slice
  have hr' := Lib.hid hr
  clear hr hF h hc hcn0 hp0
  generalize numB n ++ F = BF at *
  generalize numL n = L at *
  obtain ⟨T, hT⟩ : ∃ T, L + 32 * n = T := ⟨_, rfl⟩
  rw [hT] at hcn hpl ⊢
  have hTm : T ≤ 3000 := by omega
  go_enter Tryz.func128, Tryz.ntmps128
  go_wp2_with (first
    | (go_at_call 170; (with_reducible refine (hc'.out).mono ?_); rintro e w1 ⟨rfl, hb⟩; have hb' := Lib.hid hb; clear hb)
    | (go_at_call 171; (with_reducible refine (hcn.out _).mono ?_); rintro e w2 ⟨g, rfl, hg, h1, h2, h3, hb⟩; have r1 := Lib.hid h1; have r2 := Lib.hid h2; have r3 := Lib.hid h3; have hg' := Nat.le_trans hb'.out.size hg; have hB := Lib.hid (hb'.out.trans (hb.mono hb'.out.size)); clear h1 h2 h3 hb hg))
  clear hc' hcn hb'
  go_loopw [25] (fun i wr => ∃ k : Nat, k ≤ n ∧ i = .int .i64 k ∧ Below w.heap.size w wr ∧ wr.heap[g]? = some (.cells (u8s (listP F n k)) 5 (0, 0)) ∧ wr.heap[g + 1]? = some (.cells #[.slice (some ⟨g, 0, none⟩) T T] 101 (0, 0)) ∧ wr.heap[g + 2]? = some (.cells #[.int .i64 ((L + 32 * k : Nat) : Int)] 3 (0, 0))) (fun i _ => n - (intOf i).toNat)
  case atStart => exact ⟨0, Nat.zero_le _, rfl, hB.out, r1.out, r2.out, r3.out⟩
  case round =>
    obtain ⟨k, hk, rfl, hb, q1, q2, q3⟩ := hrel
    have hb' := Lib.hid hb; have q1' := Lib.hid q1; have q2' := Lib.hid q2; have q3' := Lib.hid q3
    clear hb q1 q2 q3 r1 r2 r3 hB
    by_cases hlt : k < n
    · obtain ⟨b, o, rfl, hbw, hnc, rng, _⟩ := rdI_at hr'.out hb'.out k hlt
      have rng' := Lib.hid rng
      have l1 := Lib.hid (idF_length F n k hlen.out hlt)
      have hst := Lib.hid (hps.out k hlt)
      have hpk := Lib.hid (hpl.out k hk)
      clear rng
      generalize idF F k = A at *
      generalize listP F n k = PK at *
      have i1 : Hid ((Tryz.prog.info? 24).map (·.size) = some (idV A).length) := Lib.hid (by rw [idV_length, l1.out]; kernel_rfl)
      have i2 : Hid ((Tryz.prog.info? 24).map (·.size) = some (u8s A).size) := Lib.hid (by rw [u8s_size, l1.out]; kernel_rfl)
      have hs := Lib.hid (show 32 = (u8s A).size from by rw [u8s_size, l1.out])
      have hfull := fun wx => run_sliceAt_full (P := Tryz.prog) Tryz.underlying24 (by kernel_rfl) wr.heap.size wx
      go_wp2_with (first
        | (refine wpList_load_mid rfl 24 _ rfl b (o + k * 32) rfl (idV A) _ rng'.out Tryz.underlying24 rfl i1.out ?_; rw [idV_arr])
        | (refine storeNewW wr rfl 24 _ _ rfl (u8s A) 24 rfl rfl i2.out (Eq.trans (by kernel_rfl) hs.out) (u8s_one _) ?_; intro wx hrow hb2; have hrow' := Lib.hid hrow; have hb2' := Lib.hid hb2; clear hrow hb2; refine Stop.go'' _ ?_))
      refine StopP.go ?_
      have hgl : g < wr.heap.size := (Array.getElem?_eq_some_iff.1 q1'.out).1
      have hgl1 : g + 1 < wr.heap.size := (Array.getElem?_eq_some_iff.1 q2'.out).1
      have hgl2 : g + 2 < wr.heap.size := (Array.getElem?_eq_some_iff.1 q3'.out).1
      have hp := Lib.hid (put_any g (L + 32 * k) T PK (.slice (some ⟨wr.heap.size, 0, none⟩) 32 32) A wx hpk.out ((hb2'.out.block _ hgl).trans q1'.out) ((hb2'.out.block _ hgl1).trans q2'.out) ((hb2'.out.block _ hgl2).trans q3'.out) (rdB_row hrow'.out 32 l1.out (by unfold maxLen; omega)) (by rw [l1.out]; omega) (by omega))
      clear hrow'
      go_wp2_with (go_at_call 200; (with_reducible refine (hp.out).mono ?_); rintro e w4 ⟨⟨v4, rfl⟩, s1, s2, s3, hb4⟩; have s1' := Lib.hid s1; have s2' := Lib.hid s2; have s3' := Lib.hid s3; have hb4' := Lib.hid hb4; clear s1 s2 s3 hb4)
      go_roundw
      case rel =>
        refine ⟨k + 1, by omega, by go_num, ?_, ?_, s2'.out, ?_⟩
        · exact hb'.out.trans ((hb2'.out.mono hb'.out.size).trans (hb4'.out.mono hg'))
        · rw [← hst.out]; exact s1'.out
        · have h := s3'.out
          rw [l1.out] at h
          exact h
      case measure => simp [intOf]; omega
    · obtain rfl : k = n := by omega
      rw [hpa.out] at q1'
      go_wp2
      go_ret2
      exact ⟨g, rfl, hg', q1'.out, hb'.out⟩
end Go.Proofs.YtlbgffhipondiaaGreatDoor.wir
namespace Go.Proofs.YtlbgffhipondiaaGreatDoor.wir
open Go.RowKit Go.YtlbgffhipondiaaGreatDoor
set_option linter.unusedVariables false
theorem run_sliceAt_off {P : Program} {t n elem : Nat} (ht : P.underlying t = some (.array n elem)) (hs : (P.info? elem).map (·.size) = some 1) (b o : Nat) (w : World) :
    (Instr.sliceAt t (.pointer (some ⟨b, o, none⟩)) none none none).run P w = .ok (.slice (some ⟨b, o, none⟩) n n) w := by
  cases hq : P.info? elem with
  | none => simp [hq] at hs
  | some inf =>
    simp [Instr.sliceAt, run_underlying ht, Instr.sureAddr, Instr.sliceBounds, sizeOf, typeInfo, hq]
    unfold Addr.add
    simp
set_option maxRecDepth 100000 in
theorem rlist_any (F : List Int) (n : Nat) (v : Value) (w : World) (hr : RdI w v n F) (hn : n ≤ 60) :
    Calls Tryz.prog 213 #[v] w fun e w' => ∃ r, e = .returned r ∧ OwnB w.heap.size 5 w' r (numB n ++ F) ∧ Below w.heap.size w w' := by
  have hnum := Lib.hid (rnum_any n (by omega) w)
  have hlen := Lib.hid hr.len
  have hL9 := numL_le n (by omega)
  have hnl := Lib.hid (numB_length n)
  have hz := Lib.hid (show numB n ++ F.take (32 * 0) = numB n by simp)
  have hall := Lib.hid (show numB n ++ F.take (32 * n) = numB n ++ F by rw [List.take_of_length_le (by rw [hlen.out]; omega)])
  have hst := Lib.hid (fun k => (show (numB n ++ F.take (32 * k)) ++ idF F k = numB n ++ F.take (32 * (k + 1)) by rw [List.append_assoc, take_ids]))
  have hll := Lib.hid (fun k (hk : k ≤ n) => (show (numB n ++ F.take (32 * k)).length = numL n + 32 * k by rw [List.length_append, numB_length, List.length_take, hlen.out]; omega))
  obtain ⟨a, c, rfl⟩ := hr.slice
  have hr' := Lib.hid hr
  clear hr
  generalize hLL : (fun k => numB n ++ F.take (32 * k)) = LF
  have e : ∀ k, numB n ++ F.take (32 * k) = LF k := fun k => by rw [← hLL]
  simp only [e] at hz hall hst hll
  rw [← hz.out] at hnum hnl
  rw [← hall.out]
  clear e hLL hz hall
  generalize numL n = L at *
  go_enter Tryz.func213, Tryz.ntmps213
  go_wp2_with (go_at_call 184; (with_reducible refine (hnum.out).mono ?_); rintro e w1 ⟨r, rfl, ho, hb⟩; have ho' := Lib.hid ho; have hb' := Lib.hid hb; clear ho hb)
  clear hnum
  go_loopw [3, 4] (fun s i wr => ∃ k : Nat, k ≤ n ∧ i = .int .i64 k ∧ OwnB w.heap.size 5 wr s (LF k) ∧ Below w.heap.size w wr) (fun _ i _ => n - (intOf i).toNat)
  case atStart => exact ⟨0, Nat.zero_le _, rfl, ho'.out, hb'.out⟩
  case round =>
    obtain ⟨k, hk, rfl, ho, hb⟩ := hrel
    obtain ⟨sa, sc, rfl⟩ := own_slice ho _ (hll.out k hk)
    have hz := hb.size
    have ho2 := Lib.hid ho; have hb2 := Lib.hid hb
    clear ho hb ho' hb'
    by_cases hlt : k < n
    · obtain ⟨b, o, rfl, hbw, hnc, _, rd⟩ := rdI_at hr'.out hb2.out k hlt
      have rd' := Lib.hid rd
      have l1 := Lib.hid (idF_length F n k hlen.out hlt)
      have hst' := Lib.hid (hst.out k)
      have hl1 := Lib.hid (hll.out (k + 1) hlt)
      have hl0 := Lib.hid (hll.out k hk)
      clear rd
      generalize idF F k = A at *
      have hoff := fun wx => run_sliceAt_off (P := Tryz.prog) Tryz.underlying24 (by kernel_rfl) b (o + k * 32) wx
      go_wp2_with (refine appendB rfl _ _ 101 rfl w.heap.size 5 Tryz.underlying101 (by kernel_rfl) _ rfl (LF k) ho2.out _ rfl A rd'.out (by rw [hl0.out, l1.out]; omega) hz ?_)
      intro v' w' h1 h2
      have hB := Lib.hid (hb2.out.trans (ho2.out.below h2 hz))
      rw [hst'.out] at h1
      obtain ⟨va, vc, rfl⟩ := own_slice h1 _ hl1.out
      have h1' := Lib.hid h1
      clear h1 h2 ho2
      refine Stop.go ?_
      go_wp2
      go_roundw
      case rel => exact ⟨k + 1, by omega, by go_num, h1'.out, hB.out⟩
      case measure => simp [intOf]; omega
    · obtain rfl : k = n := by omega
      go_wp2
      go_ret
      exact ⟨_, rfl, ho2.out, hb2.out⟩
end Go.Proofs.YtlbgffhipondiaaGreatDoor.wir
namespace Go
namespace YtlbgffhipondiaaGreatDoor
open RowKit
section
variable {P : Program}
end
end YtlbgffhipondiaaGreatDoor
end Go
namespace Go.Proofs.YtlbgffhipondiaaGreatDoor.wir
open Go.RowKit Go.YtlbgffhipondiaaGreatDoor
set_option linter.unusedVariables false
theorem rdI_row {w : World} {g : Nat} {F : List Int} {E : TypeId} (hg : w.heap[g]? = some (.cells (u8s F) E (0, 0))) (n : Nat) (hF : F.length = 32 * n) (hn : n ≤ 1000000) : RdI w (.slice (some ⟨g, 0, none⟩) n n) n F :=
  .inr ⟨g, 0, n, rfl, Nat.le_refl _, by unfold maxLen; omega, (Array.getElem?_eq_some_iff.1 hg).1, hF, fun i hi => by
    rw [Nat.zero_add, cell_of_row _ _ _ _ _ _ hg]; exact u8s_get _ _ hi⟩
end Go.Proofs.YtlbgffhipondiaaGreatDoor.wir
namespace Go.Proofs.YtlbgffhipondiaaGreatDoor.wir
open Go.RowKit Go.YtlbgffhipondiaaGreatDoor
set_option linter.unusedVariables false
end Go.Proofs.YtlbgffhipondiaaGreatDoor.wir
namespace Go.Proofs.YtlbgffhipondiaaGreatDoor.grp
set_option linter.unusedVariables false
/-- P, as' a plain definition. -/
def GP : Nat := 1000000007
theorem GP_pos : 0 < GP := by unfold GP; omega
/-- a power modulo P -/
def pw (a n : Nat) : Nat := a ^ n % GP
theorem pw_lt (a n : Nat) : pw a n < GP := Nat.mod_lt _ GP_pos
theorem pw_zero (a : Nat) : pw a 0 = 1 := by unfold pw GP; rfl
theorem pw_one (a : Nat) (h : a < GP) : pw a 1 = a := by unfold pw; rw [Nat.pow_one]; exact Nat.mod_eq_of_lt h
theorem pw_add (a m n : Nat) : pw a (m + n) = pw a m * pw a n % GP := by unfold pw; rw [Nat.pow_add, Nat.mul_mod]
theorem pw_mul (a m n : Nat) : pw a (m * n) = pw (pw a m) n := by unfold pw; rw [Nat.pow_mul, ← Nat.pow_mod]
theorem pw_of (a n : Nat) : pw (a % GP) n = pw a n := by unfold pw; rw [← Nat.pow_mod]
theorem pw_prod (a b n : Nat) : pw (a * b % GP) n = pw a n * pw b n % GP := by rw [pw_of]; unfold pw; rw [Nat.mul_pow, Nat.mul_mod]
theorem pw_one_base (n : Nat) : pw 1 n = 1 := by unfold pw; rw [Nat.one_pow]; rfl
theorem pw_dbl (a n : Nat) : pw a (2 * n) = pw a n * pw a n % GP := by rw [Nat.two_mul, pw_add]
/-- in the group -/
def inG (a : Nat) : Bool := decide (1 ≤ a ∧ a < GP ∧ pw a 500000003 = 1)
theorem inG_iff (a : Nat) : inG a = true ↔ 1 ≤ a ∧ a < GP ∧ pw a 500000003 = 1 := by simp [inG]
theorem pw_cycle (a : Nat) (h : pw a 500000003 = 1) (m k : Nat) : pw a (m + 500000003 * k) = pw a m := by
  rw [pw_add, pw_mul, h, pw_one_base, Nat.mul_one]; exact Nat.mod_eq_of_lt (pw_lt _ _)
theorem pw_rem (a : Nat) (h : pw a 500000003 = 1) (n : Nat) : pw a n = pw a (n % 500000003) := by
  have := pw_cycle a h (n % 500000003) (n / 500000003)
  rw [Nat.mod_add_div] at this; exact this
theorem one_le_of_pw {a n : Nat} (hn : 0 < n) (h : pw a n = 1) : a ≠ 0 := by
  rintro rfl
  have : pw 0 n = 0 := by unfold pw; rw [Nat.zero_pow hn]; rfl
  omega
theorem inG_pw (a n : Nat) (h : inG a = true) : inG (pw a n) = true := by
  obtain ⟨_, _, h⟩ := (inG_iff a).1 h
  have e : pw (pw a n) 500000003 = 1 := by rw [← pw_mul, Nat.mul_comm, pw_mul, h, pw_one_base]
  exact (inG_iff _).2 ⟨Nat.pos_of_ne_zero (one_le_of_pw (by omega) e), pw_lt _ _, e⟩
/-- a power by squaring, for the kernel -/
def pwF : Nat → Nat → Nat → Nat → Nat
  | 0, p, _, _ => p
  | f + 1, p, a, n => pwF f (if n % 2 = 1 then p * a % GP else p) (a * a % GP) (n / 2)
theorem pwF_eq : ∀ (f p a n : Nat), n < 2 ^ f → p < GP → pwF f p a n = p * pw a n % GP
  | 0, p, a, n, h, hp => by
    have : n = 0 := by simp at h; exact h
    subst this; rw [pw_zero, Nat.mul_one]; exact (Nat.mod_eq_of_lt hp).symm
  | f + 1, p, a, n, h, hp => by
    have hn : n / 2 < 2 ^ f := by rw [Nat.pow_succ] at h; omega
    have e : pw (a * a % GP) (n / 2) = pw a (2 * (n / 2)) := by rw [pw_prod, ← pw_add, Nat.two_mul]
    unfold pwF
    split
    · rename_i h1
      rw [pwF_eq f _ _ _ hn (Nat.mod_lt _ GP_pos), e]
      have : n = 2 * (n / 2) + 1 := by omega
      have e1 : pw a n = a % GP * pw a (2 * (n / 2)) % GP := by
        conv => lhs; rw [this, Nat.add_comm, pw_add]
        unfold pw; rw [Nat.pow_one]
      rw [e1, Nat.mod_mul_mod, Nat.mul_mod_mod, Nat.mul_left_comm, Nat.mod_mul_mod, Nat.mul_left_comm, Nat.mul_assoc]
    · rw [pwF_eq f _ _ _ hn hp, e]
      have : 2 * (n / 2) = n := by omega
      rw [this]
end Go.Proofs.YtlbgffhipondiaaGreatDoor.grp
namespace Go.Proofs.YtlbgffhipondiaaGreatDoor.grp
set_option linter.unusedVariables false
def ch : Nat → Nat → Nat
  | _, 0 => 1
  | 0, _ + 1 => 0
  | n + 1, k + 1 => ch n k + ch n (k + 1)
def bs (a n : Nat) : Nat → Nat
  | 0 => 0
  | m + 1 => bs a n m + ch n m * a ^ m
end Go.Proofs.YtlbgffhipondiaaGreatDoor.grp
namespace Go.Proofs.YtlbgffhipondiaaGreatDoor.grp
open Go.RowKit
set_option linter.unusedVariables false
/-- Nothing that was there has changed (in place of the kit's word of that name, which speaks of cells alone). -/
def Grown (w w' : World) : Prop := Below w.heap.size w w'
theorem Grown.refl (w : World) : Grown w w := Below.refl _ _
theorem Grown.alloc {W w' : World} (h : Grown W w') (c : Array Value) (t : TypeId) : Grown W (w'.alloc (.cells c t)) := Below.alloc h (Below.size h) _
theorem Grown.trans' {a b c : World} (h : Grown a b) (g : Grown b c) : Grown a c := Below.trans h (Below.mono g (Below.size h))
theorem Grown.cell' {w w' : World} (h : Grown w w') {b o : Nat} (hb : b < w.heap.size) : w'.cell? ⟨b, o, none⟩ = w.cell? ⟨b, o, none⟩ := Below.cell (p := (⟨b, o, none⟩ : Addr)) h hb
theorem ret_dec {p q : Prop} [Decidable p] [Decidable q] (h : p ↔ q) : Ending.returned (.bool (decide p)) = .returned (.bool (decide q)) := by rw [decide_eq_decide.2 h]
theorem isExponent_any (a : Nat) (w : World) : Calls Tryz.prog 191 #[.int .u32 (a : Int)] w fun e w' => e = .returned (.bool (decide (a < 500000003))) ∧ w' = w := by
  go_enter Tryz.func191, Tryz.ntmps191
  go_wp2
  go_ret
  exact ⟨ret_dec (by omega), rfl⟩
theorem products_any (m : Int) (w : World) : Calls Tryz.prog 192 #[.int .u64 m] w fun e w' => e = .returned (.func (.func 227) #[] #[.pointer (some ⟨w.heap.size, 0, none⟩)]) ∧ w' = w.alloc (.cells #[.int .u64 m] 27) := by
  have hmf : ∀ (fn : Fn) (first cap : Array Value) (w : World), (Instr.makeFunc fn first cap).run Tryz.prog w = .ok (.func fn first cap) w := fun _ _ _ _ => rfl
  go_enter Tryz.func192, Tryz.ntmps192
  go_wp2
  go_ret
  exact ⟨rfl, rfl⟩
theorem every_exp (a b : Nat) (blk : Nat) (w : World)
    (h0 : w.cell? ⟨blk, 0, none⟩ = some (.int .u32 (a : Int))) (h1 : w.cell? ⟨blk, 1, none⟩ = some (.int .u32 (b : Int))) :
    Calls Tryz.prog 190 #[.func (.func 191) #[] #[], .slice (some ⟨blk, 0, none⟩) 2 2] w fun e w' => e = .returned (.bool (decide (a < 500000003) && decide (b < 500000003))) ∧ w' = w := by
  have hF0 := fun v => isExponent_any a v
  have hF1 := fun v => isExponent_any b v
  generalize decide (a < 500000003) = x at hF0 ⊢
  generalize decide (b < 500000003) = y at hF1 ⊢
  have hF := Lib.hid hF0; have hG := Lib.hid hF1
  clear hF0 hF1
  go_enter Tryz.func190, Tryz.ntmps190
  go_wp2
  go_loop [4, 9] (fun r i => r = .bool false ∧ (i = .int .i64 0 ∨ (i = .int .i64 1 ∧ x = true) ∨ (i = .int .i64 2 ∧ x = true ∧ y = true))) (fun _ i => match i with | .int _ n => 2 - n.toNat | _ => 0)
  case atStart => exact ⟨rfl, Or.inl rfl⟩
  case round =>
    obtain ⟨rfl, h | ⟨h, hx⟩ | ⟨h, hx, hy⟩⟩ := hrel
    · subst h
      cases x
      · go_wp2_with (go_at_call 191; refine (hF.out _).mono ?_; rintro e w' ⟨rfl, rfl⟩)
        go_ret
        exact ⟨rfl, rfl⟩
      · go_wp2_with (go_at_call 191; refine (hF.out _).mono ?_; rintro e w' ⟨rfl, rfl⟩)
        exact ⟨⟨rfl, Or.inr (Or.inl ⟨rfl, trivial⟩)⟩, by decide⟩
    · subst h; subst hx
      cases y
      · go_wp2_with (go_at_call 191; refine (hG.out _).mono ?_; rintro e w' ⟨rfl, rfl⟩)
        go_ret
        exact ⟨rfl, rfl⟩
      · go_wp2_with (go_at_call 191; refine (hG.out _).mono ?_; rintro e w' ⟨rfl, rfl⟩)
        exact ⟨⟨rfl, Or.inr (Or.inr ⟨rfl, trivial, trivial⟩)⟩, by decide⟩
    · subst h; subst hx; subst hy
      go_wp2
      go_ret
      exact ⟨rfl, rfl⟩
theorem times_any (m a b : Nat) (blk : Nat) (mi : Int) (hmi : mi = (m : Int)) (w : World) (hm : w.cell? ⟨blk, 0, none⟩ = some (.int .u64 mi)) (ha : a < 4294967296) (hb : b < 4294967296) (h0 : 0 < m) (hm' : m < 4294967296) :
    Calls Tryz.prog 227 #[.int .u32 (a : Int), .int .u32 (b : Int), .pointer (some ⟨blk, 0, none⟩)] w fun e w' => e = .returned (.int .u32 ((a * b % m : Nat) : Int)) ∧ w' = w := by
  subst hmi
  go_enter Tryz.func227, Tryz.ntmps227
  go_wp2
  go_ret
  have hab : a * b < 18446744073709551616 := Nat.lt_of_lt_of_le (Nat.mul_lt_mul'' ha hb) (by decide)
  have hlt : a * b % m < 4294967296 := Nat.lt_trans (Nat.mod_lt _ h0) hm'
  have e1 : IntKind.u64.wrap ((a : Int) * (b : Int)) = ((a * b : Nat) : Int) := by rw [← Int.natCast_mul, IntKind.wrap_u64]; omega
  refine ⟨?_, rfl⟩
  show Ending.returned (Value.int .u32 ((IntKind.u64.wrap ((a : Int) * (b : Int))).tmod (m : Int) % 4294967296)) = _
  rw [e1, Int.tmod_eq_emod_of_nonneg (Int.natCast_nonneg _), ← Int.natCast_emod]
  congr 2
  omega
end Go.Proofs.YtlbgffhipondiaaGreatDoor.grp
namespace Go.Proofs.YtlbgffhipondiaaGreatDoor.grp
open Go.RowKit
set_option linter.unusedVariables false
theorem exponent_any (a : Nat) (ha : a < 4294967296) (w : World) : Calls Tryz.prog 177 #[.int .u32 (a : Int)] w fun e w' => e = .returned (.bool (decide (a < 500000003))) ∧ w' = w := by
  go_enter Tryz.func177, Tryz.ntmps177
  go_wp2
  go_ret
  exact ⟨ret_dec (by omega), rfl⟩
theorem plus_ok (a b : Nat) (h1 : a < 500000003) (h2 : b < 500000003) (w : World) : Calls Tryz.prog 153 #[.int .u32 (a : Int), .int .u32 (b : Int)] w fun e w' => e = .returned (.tuple #[.int .u32 (((a + b) % 500000003 : Nat) : Int), .int .i64 0]) ∧ Grown w w' := by
  have hE0 := every_exp a b w.heap.size (w.alloc (.cells #[.int .u32 (a : Int), .int .u32 (b : Int)] 25)) (by simp) (by simp)
  rw [show (decide (a < 500000003) && decide (b < 500000003)) = true from by simp [h1, h2]] at hE0
  have hE := Lib.hid hE0
  clear hE0
  go_enter Tryz.func153, Tryz.ntmps153
  go_wp2_with (go_at_call 190; refine (hE.out).mono ?_; rintro e w' ⟨rfl, rfl⟩)
  go_ret2
  exact ⟨rfl, (Grown.refl _).alloc _ _⟩
theorem times_ok (a b : Nat) (h1 : a < 500000003) (h2 : b < 500000003) (w : World) : Calls Tryz.prog 152 #[.int .u32 (a : Int), .int .u32 (b : Int)] w fun e w' => e = .returned (.tuple #[.int .u32 ((a * b % 500000003 : Nat) : Int), .int .i64 0]) ∧ Grown w w' := by
  have hE0 := every_exp a b w.heap.size (w.alloc (.cells #[.int .u32 (a : Int), .int .u32 (b : Int)] 25)) (by simp) (by simp)
  rw [show (decide (a < 500000003) && decide (b < 500000003)) = true from by simp [h1, h2]] at hE0
  have hE := Lib.hid hE0
  clear hE0
  have hT := Lib.hid (times_any 500000003 a b (w.heap.size + 1) 500000003 rfl ((w.alloc (.cells #[.int .u32 (a : Int), .int .u32 (b : Int)] 25)).alloc (.cells #[.int .u64 500000003] 27)) (by simp) (by omega) (by omega) (by omega) (by omega))
  go_enter Tryz.func152, Tryz.ntmps152
  go_wp2_with (first | (go_at_call 190; refine (hE.out).mono ?_; rintro e w' ⟨rfl, rfl⟩) | (go_at_call 192; refine (products_any _ _).mono ?_; rintro e w' ⟨rfl, rfl⟩) | (go_at_call 227; refine (hT.out).mono ?_; rintro e w' ⟨rfl, rfl⟩))
  go_ret2
  exact ⟨rfl, ((Grown.refl _).alloc _ _).alloc _ _⟩
end Go.Proofs.YtlbgffhipondiaaGreatDoor.grp
namespace Go.Proofs.YtlbgffhipondiaaGreatDoor.grp
open Go.RowKit
set_option linter.unusedVariables false
theorem bitLenAux_lt : ∀ f x : Nat, x < 2 ^ f → x < 2 ^ Lib.bitLenAux f x
  | 0, x, h => by simpa [Lib.bitLenAux] using h
  | f + 1, x, h => by
    unfold Lib.bitLenAux
    split
    · omega
    · have := bitLenAux_lt f (x / 2) (by rw [Nat.pow_succ] at h; omega)
      rw [Nat.pow_add, Nat.pow_one]; omega
theorem bitLen_lt (x : Nat) (h : x < 18446744073709551616) : x < 2 ^ Lib.bitLen x := bitLenAux_lt 64 x h
theorem times_GP (a b : Nat) (blk : Nat) (w : World) (hm : w.cell? ⟨blk, 0, none⟩ = some (.int .u64 1000000007)) (ha : a < GP) (hb : b < GP) :
    Calls Tryz.prog 227 #[.int .u32 (a : Int), .int .u32 (b : Int), .pointer (some ⟨blk, 0, none⟩)] w fun e w' => e = .returned (.int .u32 ((a * b % GP : Nat) : Int)) ∧ w' = w :=
  times_any GP a b blk 1000000007 rfl w hm (by unfold GP at ha; omega) (by unfold GP at hb; omega) GP_pos (by decide)
theorem len_any (n : Nat) (hn : n < 18446744073709551616) (w : World) : Calls Tryz.prog 193 #[.int .u64 (n : Int)] w fun e w' => e = .returned (.int .i64 (Lib.bitLen n)) ∧ w' = w :=
  Tryz.bits_Len64 n w (by omega) (by omega)
theorem bit_step (a n k : Nat) : pw a (n % 2 ^ (k + 1)) = if n / 2 ^ k % 2 = 1 then pw a (n % 2 ^ k) * pw a (2 ^ k) % GP else pw a (n % 2 ^ k) := by
  have h : n % 2 ^ (k + 1) = n % 2 ^ k + 2 ^ k * (n / 2 ^ k % 2) := by rw [Nat.pow_succ, Nat.mod_mul]
  rw [h]
  split
  · rename_i h1
    rw [h1, Nat.mul_one, pw_add]
  · rename_i h1
    rw [show n / 2 ^ k % 2 = 0 by omega, Nat.mul_zero, Nat.add_zero]
theorem sq_step (a k : Nat) : pw a (2 ^ k) * pw a (2 ^ k) % GP = pw a (2 ^ (k + 1)) := by rw [Nat.pow_succ, Nat.mul_comm _ 2, pw_dbl]
theorem bit_one (n k : Nat) (hn : n < 18446744073709551616) : bits .and .u64 ((n : Int) / 2 ^ k) 1 = ((n / 2 ^ k % 2 : Nat) : Int) := by
  have h1 : ((n : Int) / 2 ^ k) = ((n / 2 ^ k : Nat) : Int) := by rw [Int.natCast_ediv, Int.natCast_pow]; rfl
  have h2 : n / 2 ^ k < 2 ^ 64 := Nat.lt_of_le_of_lt (Nat.div_le_self _ _) hn
  have h3 : (BitVec.ofInt 64 ((n / 2 ^ k : Nat) : Int)).toNat = n / 2 ^ k := by
    rw [BitVec.ofInt_natCast, BitVec.toNat_ofNat]; exact Nat.mod_eq_of_lt h2
  rw [h1]
  show IntKind.u64.wrap ((BitVec.ofInt 64 ((n / 2 ^ k : Nat) : Int) &&& BitVec.ofInt 64 1).toNat : Int) = _
  rw [BitVec.toNat_and, h3, show (BitVec.ofInt 64 1).toNat = 1 from rfl, Nat.and_one_is_mod, IntKind.wrap_u64]
  omega
theorem power_any (a n : Nat) (ha : a < GP) (hn : n < 18446744073709551616) (w : World) : Calls Tryz.prog 164 #[.int .u32 (a : Int), .int .u64 (n : Int)] w fun e w' => e = .returned (.int .u32 (pw a n : Int)) ∧ Grown w w' := by
  have hL := Lib.hid (len_any n hn)
  have hlt := bitLen_lt n hn
  have hle : Lib.bitLen n ≤ 64 := Lib.bitLen_le n 64 (by omega) (by omega)
  generalize Lib.bitLen n = L at hL hlt hle
  have hlt' := Lib.hid hlt; have hn' := Lib.hid hn; have ha' := Lib.hid ha
  clear hlt hn ha
  go_enter Tryz.func164, Tryz.ntmps164
  go_wp2_with (first | (go_at_call 192; refine (products_any _ _).mono ?_; rintro e w' ⟨rfl, rfl⟩) | (go_at_call 193; refine (hL.out _).mono ?_; rintro e w' ⟨rfl, rfl⟩))
  go_loop [0, 6, 11] (fun x p i => ∃ k : Nat, k ≤ L ∧ i = .int .i64 k ∧ p = .int .u32 (pw a (n % 2 ^ k) : Int) ∧ x = .int .u32 (pw a (2 ^ k) : Int)) (fun _ _ i => match i with | .int _ m => L - m.toNat | _ => 0)
  case atStart => exact ⟨0, Nat.zero_le _, rfl, by rw [Nat.pow_zero, Nat.mod_one, pw_zero]; rfl, by rw [Nat.pow_zero, pw_one a ha'.out]⟩
  case round =>
    obtain ⟨k, hk, rfl, rfl, rfl⟩ := hrel
    have hx := pw_lt a (2 ^ k); have hp := pw_lt a (n % 2 ^ k)
    generalize hX : pw a (2 ^ k) = X at hx ⊢
    generalize hP : pw a (n % 2 ^ k) = p at hp ⊢
    have hX' := Lib.hid hX; have hP' := Lib.hid hP; have hx' := Lib.hid hx; have hp' := Lib.hid hp
    clear hX hP hx hp
    have hbit := Lib.hid (bit_one n k hn'.out)
    go_wp2_with (go_at_call 227; refine (times_GP _ _ _ _ (by simp) (by first | exact hp'.out | exact hx'.out) hx'.out).mono ?_; rintro e w' ⟨rfl, rfl⟩)
    · rename_i hlt hb _
      rw [hbit.out] at hb
      have hb1 : n / 2 ^ k % 2 = 1 := by have := eq_of_beq hb; omega
      refine ⟨⟨k + 1, by omega, by simp, ?_, ?_⟩, ?_⟩
      · rw [bit_step, if_pos hb1, hX'.out, hP'.out, Int.natCast_emod, Int.natCast_mul]
      · rw [← sq_step, hX'.out, Int.natCast_emod, Int.natCast_mul]
      · show L - ((k : Int) + 1).toNat < L - (k : Int).toNat
        omega
    · rename_i hlt hb _
      rw [hbit.out] at hb
      have hb1 : ¬ n / 2 ^ k % 2 = 1 := by
        intro h; rw [h] at hb; exact absurd hb (by decide)
      refine ⟨⟨k + 1, by omega, by simp, ?_, ?_⟩, ?_⟩
      · rw [bit_step, if_neg hb1, hP'.out]
      · rw [← sq_step, hX'.out, Int.natCast_emod, Int.natCast_mul]
      · show L - ((k : Int) + 1).toNat < L - (k : Int).toNat
        omega
    · rename_i hlt
      obtain rfl : k = L := by omega
      go_ret
      refine ⟨?_, (Grown.refl _).alloc _ _⟩
      have e := hP'.out
      rw [Nat.mod_eq_of_lt hlt'.out] at e
      rw [e]; rfl
theorem mulGP (p x : Nat) (hp : p < GP) (hx : x < GP) : (IntKind.u64.wrap ((p : Int) * (x : Int))).tmod 1000000007 = ((p * x % GP : Nat) : Int) := by
  have h : p * x < GP * GP := Nat.mul_lt_mul'' hp hx
  have e1 : IntKind.u64.wrap ((p : Int) * (x : Int)) = ((p * x : Nat) : Int) := by
    rw [← Int.natCast_mul, IntKind.wrap_u64]; unfold GP at h; omega
  rw [e1, Int.tmod_eq_emod_of_nonneg (Int.natCast_nonneg _)]; rfl
theorem halfm (m : Nat) (h : m < 18446744073709551616) : IntKind.u64.wrap ((m : Int) / 2) = ((m / 2 : Nat) : Int) := by
  rw [IntKind.wrap_u64]; omega
theorem rpower_any (a n : Nat) (ha : a < GP) (hn : n < 18446744073709551616) (w : World) : Calls Tryz.prog 205 #[.int .u64 (a : Int), .int .u64 (n : Int), .int .u64 1000000007] w fun e w' => e = .returned (.int .u64 (pw a n : Int)) ∧ w' = w := by
  have hn' := Lib.hid hn; have ha' := Lib.hid ha
  clear hn ha
  go_enter Tryz.func205, Tryz.ntmps205
  go_wp2
  go_loop [0, 1, 7] (fun x m p => ∃ k : Nat, m = .int .u64 (n / 2 ^ k : Nat) ∧ p = .int .u64 (pw a (n % 2 ^ k) : Int) ∧ x = .int .u64 (pw a (2 ^ k) : Int)) (fun _ m _ => match m with | .int _ m => m.toNat | _ => 0)
  case atStart => exact ⟨0, by rw [Nat.pow_zero, Nat.div_one], by rw [Nat.pow_zero, Nat.mod_one, pw_zero]; rfl, by rw [Nat.pow_zero, pw_one a ha'.out]⟩
  case round =>
    obtain ⟨k, rfl, rfl, rfl⟩ := hrel
    have hx := pw_lt a (2 ^ k); have hp := pw_lt a (n % 2 ^ k)
    generalize hX : pw a (2 ^ k) = X at hx ⊢
    generalize hP : pw a (n % 2 ^ k) = p at hp ⊢
    generalize hM : n / 2 ^ k = m
    have hX' := Lib.hid hX; have hP' := Lib.hid hP; have hx' := Lib.hid hx; have hp' := Lib.hid hp; have hM' := Lib.hid hM
    clear hX hP hx hp hM
    have hm : m < 18446744073709551616 := Nat.lt_of_le_of_lt (by rw [← hM'.out]; exact Nat.div_le_self _ _) hn'.out
    have hm' := Lib.hid hm; clear hm
    go_wp2
    · rename_i hlt hb
      have hb1 : n / 2 ^ k % 2 = 1 := by have := eq_of_beq hb; rw [hM'.out]; omega
      have hM2 : m / 2 = n / 2 ^ (k + 1) := by rw [← hM'.out, Nat.div_div_eq_div_mul, ← Nat.pow_succ]
      rw [mulGP p X hp'.out hx'.out, mulGP X X hx'.out hx'.out, halfm m hm'.out]
      refine ⟨⟨k + 1, by rw [hM2], ?_, ?_⟩, ?_⟩
      · rw [bit_step, if_pos hb1, hX'.out, hP'.out]
      · rw [← sq_step, hX'.out]
      · show ((m / 2 : Nat) : Int).toNat < (m : Int).toNat
        omega
    · rename_i hlt hb
      have hb1 : ¬ n / 2 ^ k % 2 = 1 := by
        rw [hM'.out]; intro h
        have : ((m : Int) % 2) = 1 := by omega
        rw [this] at hb; exact absurd hb (by decide)
      have hM2 : m / 2 = n / 2 ^ (k + 1) := by rw [← hM'.out, Nat.div_div_eq_div_mul, ← Nat.pow_succ]
      rw [mulGP X X hx'.out hx'.out, halfm m hm'.out]
      refine ⟨⟨k + 1, by rw [hM2], ?_, ?_⟩, ?_⟩
      · rw [bit_step, if_neg hb1, hP'.out]
      · rw [← sq_step, hX'.out]
      · show ((m / 2 : Nat) : Int).toNat < (m : Int).toNat
        omega
    · rename_i hlt _
      have hm0 : m = 0 := by omega
      have hlt2 : n < 2 ^ k := by
        have h := hM'.out
        rw [hm0] at h
        rcases Nat.div_eq_zero_iff.1 h with h | h
        · exact absurd h (Nat.ne_of_gt (Nat.two_pow_pos k))
        · exact h
      go_ret
      refine ⟨?_, rfl⟩
      have e := hP'.out
      rw [Nat.mod_eq_of_lt hlt2] at e
      rw [e]; rfl
end Go.Proofs.YtlbgffhipondiaaGreatDoor.grp
namespace Go.Proofs.YtlbgffhipondiaaGreatDoor.grp
open Go.RowKit
set_option linter.unusedVariables false
theorem inG_zero : inG 0 = false := by simp [inG]
theorem inG_big (a : Nat) (h : ¬ a < GP) : inG a = false := by simp [inG, h]
theorem inG_mid (a : Nat) (h0 : 1 ≤ a) (h1 : a < GP) : inG a = ((pw a 500000003 : Int) == 1) := by
  rw [Bool.eq_iff_iff, inG_iff, beq_iff_eq]; omega
theorem is_any (a : Nat) (ha : a < 4294967296) (w : World) : Calls Tryz.prog 122 #[.int .u32 (a : Int)] w fun e w' => e = .returned (.bool (inG a)) ∧ Grown w w' := by
  by_cases h0 : 1 ≤ a
  · by_cases h1 : a < 1000000007
    · have hp := Lib.hid (power_any a 500000003 h1 (by decide))
      have hi := Lib.hid (inG_mid a h0 h1)
      have h1i : (a : Int) < 1000000007 := by omega
      clear ha h1
      generalize pw a 500000003 = x at hp hi
      go_enter Tryz.func122, Tryz.ntmps122
      generalize hc : (1000000007 : Int) = c at h1i ⊢
      clear hc
      go_wp2_with (go_at_call 164; refine (hp.out _).mono ?_; rintro e w' ⟨rfl, g1⟩)
      all_goals
        go_ret
        refine ⟨?_, g1⟩
        rw [hi.out]
        first | rfl | (simp_all; done)
    · have hi := Lib.hid (inG_big a h1)
      have h1i : ¬ (a : Int) < 1000000007 := by omega
      clear ha h1
      go_enter Tryz.func122, Tryz.ntmps122
      generalize hc : (1000000007 : Int) = c at h1i ⊢
      clear hc
      go_wp2
      all_goals
        go_ret
        exact ⟨by rw [hi.out]; rfl, Grown.refl _⟩
  · obtain rfl : a = 0 := by omega
    have hi := Lib.hid inG_zero
    clear ha h0
    go_enter Tryz.func122, Tryz.ntmps122
    go_wp2
    go_ret
    exact ⟨by rw [hi.out]; rfl, Grown.refl _⟩
theorem ris_any (a : Nat) (ha : a < 4294967296) (w : World) : Calls Tryz.prog 175 #[.int .u32 (a : Int)] w fun e w' => e = .returned (.bool (inG a)) ∧ w' = w := by
  by_cases h0 : 1 ≤ a
  · by_cases h1 : a < 1000000007
    · have hp := Lib.hid (rpower_any a 500000003 h1 (by decide))
      have hi := Lib.hid (inG_mid a h0 h1)
      have h1i : (a : Int) < 1000000007 := by omega
      clear h1
      generalize pw a 500000003 = x at hp hi
      go_enter Tryz.func175, Tryz.ntmps175
      generalize hc : (1000000007 : Int) = c at h1i hp ⊢
      clear hc
      go_wp2_with (go_at_call 205; refine (hp.out _).mono ?_; rintro e w' ⟨rfl, rfl⟩)
      all_goals
        go_ret
        refine ⟨?_, rfl⟩
        rw [hi.out]
        first | rfl | (simp_all; done)
    · have hi := Lib.hid (inG_big a h1)
      have h1i : ¬ (a : Int) < 1000000007 := by omega
      clear ha h1
      go_enter Tryz.func175, Tryz.ntmps175
      generalize hc : (1000000007 : Int) = c at h1i ⊢
      clear hc
      go_wp2
      all_goals
        go_ret
        exact ⟨by rw [hi.out]; rfl, rfl⟩
  · obtain rfl : a = 0 := by omega
    have hi := Lib.hid inG_zero
    clear ha h0
    go_enter Tryz.func175, Tryz.ntmps175
    go_wp2
    go_ret
    exact ⟨by rw [hi.out]; rfl, rfl⟩
theorem every_is (a b : Nat) (blk : Nat) (w : World)(ha : a < 4294967296) (hb : b < 4294967296)
    (h0 : w.cell? ⟨blk, 0, none⟩ = some (.int .u32 (a : Int))) (h1 : w.cell? ⟨blk, 1, none⟩ = some (.int .u32 (b : Int))) :
    Calls Tryz.prog 190 #[.func (.func 122) #[] #[], .slice (some ⟨blk, 0, none⟩) 2 2] w fun e w' => e = .returned (.bool (inG a && inG b)) ∧ Grown w w' := by
  have hF0 := fun v => is_any a (by omega) v
  have hF1 := fun v => is_any b (by omega) v
  generalize inG a = x at hF0 ⊢
  generalize inG b = y at hF1 ⊢
  have hF := Lib.hid hF0; have hG := Lib.hid hF1
  clear hF0 hF1
  have hblk : blk < w.heap.size := World.block_lt_of_cell? _ _ h0
  go_enter Tryz.func190, Tryz.ntmps190
  go_wp2
  go_loopw [4, 9] (fun r i wr => r = .bool false ∧ Grown w wr ∧ (i = .int .i64 0 ∨ (i = .int .i64 1 ∧ x = true) ∨ (i = .int .i64 2 ∧ x = true ∧ y = true))) (fun _ i _ => match i with | .int _ n => 2 - n.toNat | _ => 0)
  case atStart => exact ⟨rfl, Grown.refl _, Or.inl rfl⟩
  case round =>
    obtain ⟨rfl, hg, h | ⟨h, hx⟩ | ⟨h, hx, hy⟩⟩ := hrel
    · subst h
      have k0 := (Grown.cell' hg hblk).trans h0; have k1 := (Grown.cell' hg hblk).trans h1; have hg' := Lib.hid hg; clear hg
      cases x
      · go_wp2_with (go_at_call 122; refine (hF.out _).mono ?_; rintro e w' ⟨rfl, g1⟩)
        go_ret
        exact ⟨rfl, Grown.trans' hg'.out g1⟩
      · go_wp2_with (go_at_call 122; refine (hF.out _).mono ?_; rintro e w' ⟨rfl, g1⟩)
        exact ⟨⟨rfl, Grown.trans' hg'.out g1, Or.inr (Or.inl ⟨rfl, trivial⟩)⟩, by decide⟩
    · subst h; subst hx
      have k0 := (Grown.cell' hg hblk).trans h0; have k1 := (Grown.cell' hg hblk).trans h1; have hg' := Lib.hid hg; clear hg
      cases y
      · go_wp2_with (go_at_call 122; refine (hG.out _).mono ?_; rintro e w' ⟨rfl, g1⟩)
        go_ret
        exact ⟨rfl, Grown.trans' hg'.out g1⟩
      · go_wp2_with (go_at_call 122; refine (hG.out _).mono ?_; rintro e w' ⟨rfl, g1⟩)
        exact ⟨⟨rfl, Grown.trans' hg'.out g1, Or.inr (Or.inr ⟨rfl, trivial, trivial⟩)⟩, by decide⟩
    · subst h; subst hx; subst hy
      have hg' := Lib.hid hg; clear hg
      go_wp2
      go_ret
      exact ⟨rfl, hg'.out⟩
end Go.Proofs.YtlbgffhipondiaaGreatDoor.grp
namespace Go.Proofs.YtlbgffhipondiaaGreatDoor.wir.val
open Go.RowKit Go.YtlbgffhipondiaaGreatDoor
set_option linter.unusedVariables false
def sigB (e s : Int) : Bool := decide (e < 500000003) && decide (s < 500000003)
theorem validSig_any (e s : Int) (w : World) :
    Calls Tryz.prog 124 #[.agg #[.int .u32 e, .int .u32 s]] w fun x w' => x = .returned (.bool (sigB e s)) ∧ Below w.heap.size w w' := by
  have hB := Lib.hid (show Below w.heap.size w (w.alloc (.cells #[.int .u32 e, .int .u32 s] 33)) from (Below.refl w.heap.size w).alloc (Nat.le_refl _) _)
  have he : sigB e s = (decide (e < 500000003) && decide (s < 500000003)) := rfl
  generalize sigB e s = R at *
  go_enter Tryz.func124, Tryz.ntmps124
  generalize hc : (500000003 : Int) = c at he ⊢
  by_cases h1 : e < c
  · by_cases h2 : s < c
    · have e' := Lib.hid (he.trans (by rw [decide_eq_true h1, decide_eq_true h2]))
      clear he hc
      go_wp2
      go_ret
      exact ⟨ret_bool e'.out.symm, hB.out⟩
    · have e' := Lib.hid (he.trans (by rw [decide_eq_true h1, decide_eq_false h2]))
      clear he hc
      go_wp2
      go_ret
      exact ⟨ret_bool e'.out.symm, hB.out⟩
  · have e' := Lib.hid (he.trans (by rw [decide_eq_false h1]))
    clear he hc
    go_wp2
    go_ret
    exact ⟨ret_bool e'.out.symm, hB.out⟩
theorem qa_eqlI {C : World → Prop} {a : Act} {o : Oper} (x y : Operand) (A B : List Int) (hA : A.length = 32) (hB : B.length = 32) (R : Bool) (hR : decide (A = B) = R) (ho : o.op = .binOp .eql 24 x y 24)
    (hx : a.eval x = .agg (u8s A)) (hy : a.eval y = .agg (u8s B)) : ∀ w, C w → o.quietAt Tryz.prog a C w (.bool R) := by
  intro w _; subst hR; refine qa_ok ?_
  have h0 : Tryz.prog.eqGuardType Tryz.prog.depth 24 = false := by kernel_rfl
  have hg := run_eqGuard_agg (P := Tryz.prog) w .eql 24 x y (u8s A) (u8s B) h0
  have he := run_equalArr (P := Tryz.prog) w 9998 24 5 32 Tryz.underlying24 Tryz.underlying5 (by kernel_rfl) A B hA hB
  unfold execOp
  generalize a.eval = ev at *
  simp only [ho]
  simp only [hx, hy] at *
  simp [go_sem, hg, he]
set_option maxRecDepth 100000 in
set_option maxHeartbeats 2000000 in
theorem opIncrease_any (F : List Int) (n : Nat) (v : Value) (w : World) (hr : RdI w v n F) (hF : Bytes F) (hn : n ≤ 100000) :
    Calls Tryz.prog 121 #[v] w fun e w' => e = .returned (.bool (riseF F n)) ∧ Below w.heap.size w w' := by
  have hlen := Lib.hid hr.len
  obtain ⟨a, c, rfl⟩ := hr.slice
  have hr' := Lib.hid hr; have hF' := Lib.hid hF
  clear hr hF
  have hwn : IntKind.i64.wrap ((n : Int) - 1) = (n : Int) - 1 := IntWalk.i64_in _ (by omega)
  go_enter Tryz.func121, Tryz.ntmps121
  go_wp2
  go_loopw [7] (fun i wr => ∃ k : Nat, (k = 0 ∨ k + 1 ≤ n) ∧ i = .int .i64 k ∧ Below w.heap.size w wr ∧ ∀ j, j < k → cmpF (idF F j) (idF F (j + 1)) < 0) (fun i _ => n - (intOf i).toNat)
  case atStart => exact ⟨0, .inl rfl, rfl, Below.refl _ _, fun j hj => absurd hj (Nat.not_lt_zero _)⟩
  case round =>
    obtain ⟨k, hk, rfl, hb, he⟩ := hrel
    have he' := Lib.hid he; have hb' := Lib.hid hb
    clear he hb
    by_cases hlt : k + 1 < n
    · obtain ⟨b, o, rfl, hbw, hnc, q1, _⟩ := rdI_at hr'.out hb'.out k (by omega)
      obtain ⟨b2, o2, hab, _, _, q2, _⟩ := rdI_at hr'.out hb'.out (k + 1) hlt
      cases hab
      have hbr := Lib.hid (Nat.lt_of_lt_of_le hbw hb'.out.size)
      have q1' := Lib.hid (fun (w' : World) (h : Below wr.heap.size wr w') => (show w'.rangeAt b (o + k * 32) (idV (idF F k)) from fun j v hv => (h.cell (p := ⟨b, o + k * 32 + j, none⟩) hbr.out).trans (q1 j v hv)))
      have q2' := Lib.hid (fun (w' : World) (h : Below wr.heap.size wr w') => (show w'.rangeAt b (o + (k + 1) * 32) (idV (idF F (k + 1))) from fun j v hv => (h.cell (p := ⟨b, o + (k + 1) * 32 + j, none⟩) hbr.out).trans (q2 j v hv)))
      have l1 := Lib.hid (idF_length F n k hlen.out (by omega))
      have l2 := Lib.hid (idF_length F n (k + 1) hlen.out hlt)
      have hc := Lib.hid (fun wi => cmp_any (idF F k) (idF F (k + 1)) wi l1.out l2.out (idF_bytes F k hF'.out) (idF_bytes F (k + 1) hF'.out))
      have hno := Lib.hid (fun h => rise_no (F := F) (n := n) k hlt h)
      have hyes := Lib.hid (fun (h : cmpF (idF F k) (idF F (k + 1)) < 0) => (show ∀ j, j < k + 1 → cmpF (idF F j) (idF F (j + 1)) < 0 from fun j hj => by
        rcases Nat.lt_or_ge j k with h1 | h1
        · exact he'.out j h1
        · obtain rfl : j = k := by omega
          exact h))
      clear q1 q2 he' hk
      have hz1 := Lib.hid (fun h : idF F k = idF F (k + 1) => (show cmpF (idF F k) (idF F (k + 1)) = 0 by rw [h]; exact cmp_self _))
      have hz2 := Lib.hid (fun h : cmpF (idF F k) (idF F (k + 1)) = 0 => cmp_zero _ _ h)
      generalize idF F (k + 1) = B at *
      generalize idF F k = A at *
      generalize cmpF A B = T at *
      have x1 : IntKind.i64.wrap ((k : Int) + 1) = (k : Int) + 1 := IntWalk.i64_in _ (by omega)
      have x2 : (0 : Int) ≤ (k : Int) + 1 := by omega
      have x3 : ((k : Int) + 1).toNat = k + 1 := by omega
      have x4 : (k : Int) + 1 < (n : Int) := by omega
      have x5 : k < n := by omega
      have x6 : (k : Int) < (n : Int) := by omega
      have i1 : Hid ((Tryz.prog.info? 24).map (·.size) = some (idV A).length) := Lib.hid (by rw [idV_length, l1.out]; kernel_rfl)
      have i2 : Hid ((Tryz.prog.info? 24).map (·.size) = some (idV B).length) := Lib.hid (by rw [idV_length, l2.out]; kernel_rfl)
      by_cases hAB : A = B
      · have hR := Lib.hid (decide_eq_true hAB)
        have hh := Lib.hid (hno.out (by rw [hz1.out hAB]; omega))
        clear hAB hno hyes hz1 hz2
        go_upto_region 4 with fail
        refine wp_region_quiet (C := fun w' => Below wr.heap.size wr w') (by kernel_rfl) (by kernel_rfl) ((Below.refl _ _).drew) ?_
        simp only []
        iterate 3 (go_big_quiet_want; go_big_quiet_op; first | go_big_quiet_on | (refine ⟨_, fun _ _ => rfl, ?_⟩; go_big_quiet_on))
        refine wpq (.agg (u8s A)) rfl (qa_load_mid 24 _ rfl b (o + k * 32) rfl A _ Tryz.underlying24 rfl i1.out q1'.out) rfl (fun K hK => ?_); go_simp; refine hK _ ?_; clear hK K
        iterate 4 (go_big_quiet_want; go_big_quiet_op; first | go_big_quiet_on | (refine ⟨_, fun _ _ => rfl, ?_⟩; go_big_quiet_on))
        refine wpq (.agg (u8s B)) rfl (qa_load_mid 24 _ rfl b (o + (k + 1) * 32) rfl B _ Tryz.underlying24 rfl i2.out q2'.out) rfl (fun K hK => ?_); go_simp; refine hK _ ?_; clear hK K
        refine wpq (.bool true) rfl (qa_eqlI _ _ A B l1.out l2.out true hR.out rfl rfl rfl) rfl (fun K hK => ?_); go_simp; refine hK _ ?_; clear hK K
        (go_big_quiet_want; go_big_quiet_op; first | go_big_quiet_on | (refine ⟨_, fun _ _ => rfl, ?_⟩; go_big_quiet_on))
        iterate 11 go_big_quiet_skip
        (go_big_quiet_want; go_big_quiet_op; first | go_big_quiet_on | (refine ⟨_, fun _ _ => rfl, ?_⟩; go_big_quiet_on))
        refine wpQuiet_nil ?_
        intro w2 h2
        have hB2 := Lib.hid (hb'.out.trans (h2.mono hb'.out.size))
        clear h2
        go_wp2
        go_ret
        exact ⟨ret_bool hh.out.symm, hB2.out⟩
      · have hR := Lib.hid (decide_eq_false hAB)
        have hT0 : T ≠ 0 := fun h => hAB (hz2.out h)
        clear hAB hz1 hz2
        go_upto_region 4 with fail
        refine wp_region_quiet (C := fun w' => Below wr.heap.size wr w') (by kernel_rfl) (by kernel_rfl) ((Below.refl _ _).drew) ?_
        simp only []
        iterate 3 (go_big_quiet_want; go_big_quiet_op; first | go_big_quiet_on | (refine ⟨_, fun _ _ => rfl, ?_⟩; go_big_quiet_on))
        refine wpq (.agg (u8s A)) rfl (qa_load_mid 24 _ rfl b (o + k * 32) rfl A _ Tryz.underlying24 rfl i1.out q1'.out) rfl (fun K hK => ?_); go_simp; refine hK _ ?_; clear hK K
        iterate 4 (go_big_quiet_want; go_big_quiet_op; first | go_big_quiet_on | (refine ⟨_, fun _ _ => rfl, ?_⟩; go_big_quiet_on))
        refine wpq (.agg (u8s B)) rfl (qa_load_mid 24 _ rfl b (o + (k + 1) * 32) rfl B _ Tryz.underlying24 rfl i2.out q2'.out) rfl (fun K hK => ?_); go_simp; refine hK _ ?_; clear hK K
        refine wpq (.bool false) rfl (qa_eqlI _ _ A B l1.out l2.out false hR.out rfl rfl rfl) rfl (fun K hK => ?_); go_simp; refine hK _ ?_; clear hK K
        (go_big_quiet_want; go_big_quiet_op; first | go_big_quiet_on | (refine ⟨_, fun _ _ => rfl, ?_⟩; go_big_quiet_on))
        iterate 3 (go_big_quiet_want; go_big_quiet_op; first | go_big_quiet_on | (refine ⟨_, fun _ _ => rfl, ?_⟩; go_big_quiet_on))
        refine wpq (.agg (u8s A)) rfl (qa_load_mid 24 _ rfl b (o + k * 32) rfl A _ Tryz.underlying24 rfl i1.out q1'.out) rfl (fun K hK => ?_); go_simp; refine hK _ ?_; clear hK K
        iterate 4 (go_big_quiet_want; go_big_quiet_op; first | go_big_quiet_on | (refine ⟨_, fun _ _ => rfl, ?_⟩; go_big_quiet_on))
        refine wpq (.agg (u8s B)) rfl (qa_load_mid 24 _ rfl b (o + (k + 1) * 32) rfl B _ Tryz.underlying24 rfl i2.out q2'.out) rfl (fun K hK => ?_); go_simp; refine hK _ ?_; clear hK K
        refine wpq (.int .i64 T) rfl (quiet_call2 rfl Tryz.func98 (by kernel_rfl) rfl (.agg (u8s A)) (.agg (u8s B)) (.int .i64 T) rfl rfl rfl (fun w9 h => (hc.out w9).mono fun e w' ⟨he, hd⟩ => ⟨he, h.trans (hd.mono h.size)⟩)) rfl (fun K hK => ?_); go_simp; refine hK _ ?_; clear hK K
        (go_big_quiet_want; go_big_quiet_op; first | go_big_quiet_on | (refine ⟨_, fun _ _ => rfl, ?_⟩; go_big_quiet_on))
        (go_big_quiet_want; go_big_quiet_op; first | go_big_quiet_on | (refine ⟨_, fun _ _ => rfl, ?_⟩; go_big_quiet_on))
        refine wpQuiet_nil ?_
        intro w2 h2
        have hB2 := Lib.hid (hb'.out.trans (h2.mono hb'.out.size))
        clear h2
        by_cases hT : T < 0
        · have hh := Lib.hid (hyes.out hT)
          have hT2 : ¬ 0 < T := by omega
          clear hno hyes
          go_wp2
          go_roundw
          case rel => exact ⟨k + 1, .inr (by omega), by go_num, hB2.out, hh.out⟩
          case measure => simp [intOf]; omega
        · have hh := Lib.hid (hno.out (by omega))
          have hT2 : 0 < T := by omega
          clear hno hyes
          go_wp2
          go_ret
          exact ⟨ret_bool hh.out.symm, hB2.out⟩
    · have hh := Lib.hid (rise_yes (F := F) (n := n) (fun i hi => he'.out i (by rcases hk with h | h <;> omega)))
      have hk' : ¬ (k : Int) < (n : Int) - 1 := by omega
      go_wp2
      go_ret
      exact ⟨ret_bool hh.out.symm, hb'.out⟩
end Go.Proofs.YtlbgffhipondiaaGreatDoor.wir.val
namespace Go.Proofs.YtlbgffhipondiaaGreatDoor.wir.val
open Go.RowKit Go.YtlbgffhipondiaaGreatDoor
set_option linter.unusedVariables false
/-- An operation; its predecessors are n ids, whose bytes, one behind the other, are F. -/
structure Od where
  au : Nat
  n : Nat
  F : List Int
  st : Nat
  k : Int
  key : ByteArray
  v : Va
  e : Nat
  s : Nat
abbrev Od.c (o : Od) (pv : Value) : Array Value := #[.int .u32 (o.au : Int), pv, .int .u64 (o.st : Int), .int .u8 o.k, .string o.key, .int .u8 o.v.k, .int .i64 o.v.n, .int .u64 (o.v.b : Int), .string o.v.s, .int .u32 (o.e : Int), .int .u32 (o.s : Int)]
structure Od.Fit (o : Od) : Prop where
  au : o.au < 4294967296
  F : Bytes o.F
  n : o.n ≤ 100000
  st : o.st < 18446744073709551616
  k : 0 ≤ o.k ∧ o.k < 256
  key : o.key.size ≤ 1000000
  v : o.v.fit
  e : o.e < 4294967296
  s : o.s < 4294967296
def okO (o : Od) : Bool := grp.inG o.au && (decide ((o.st : Int) ≤ 1000000000000) && (actB o.k o.key o.v && sigB (o.e : Int) (o.s : Int)))
def chkO (o : Od) : Int := if 4 < o.n then 4 else if riseF o.F o.n = true then (if okO o = true then 0 else 8) else 32
theorem info_op : (Tryz.prog.info? 35).map (·.size) = some 11 := by kernel_rfl
theorem info_sig : (Tryz.prog.info? 33).map (·.size) = some 2 := by kernel_rfl
theorem cellsO {w : World} {g : Nat} {o : Od} {pv : Value} (h : w.heap[g]? = some (.cells (o.c pv) 35 (0, 0))) :
    w.cell? ⟨g, 0, none⟩ = some (.int .u32 (o.au : Int)) ∧ w.cell? ⟨g, 1, none⟩ = some pv ∧ w.cell? ⟨g, 2, none⟩ = some (.int .u64 (o.st : Int)) ∧ w.rangeAt g 3 (aC o.k o.key o.v).toList ∧ w.rangeAt g 9 [.int .u32 (o.e : Int), .int .u32 (o.s : Int)] ∧ w.cell? ⟨g, 9, none⟩ = some (.int .u32 (o.e : Int)) ∧ w.cell? ⟨g, 10, none⟩ = some (.int .u32 (o.s : Int)) := by
  refine ⟨cell_of_row _ _ _ _ _ _ h, cell_of_row _ _ _ _ _ _ h, cell_of_row _ _ _ _ _ _ h, ?_, ?_, cell_of_row _ _ _ _ _ _ h, cell_of_row _ _ _ _ _ _ h⟩
  · intro j x hx
    have hj : j < 6 := (List.getElem?_eq_some_iff.1 hx).1
    rw [← hx]
    unfold World.cell?
    rw [show (⟨g, 3 + j, none⟩ : Addr).block = g from rfl, h]
    match j, hj with
    | 0, _ => rfl
    | 1, _ => rfl
    | 2, _ => rfl
    | 3, _ => rfl
    | 4, _ => rfl
    | 5, _ => rfl
  · intro j x hx
    have hj : j < 2 := (List.getElem?_eq_some_iff.1 hx).1
    rw [← hx]
    unfold World.cell?
    rw [show (⟨g, 9 + j, none⟩ : Addr).block = g from rfl, h]
    match j, hj with
    | 0, _ => rfl
    | 1, _ => rfl
theorem chk_many {o : Od} (h : 4 < o.n) : chkO o = 4 := if_pos h
theorem chk_order {o : Od} (h : ¬ 4 < o.n) (h2 : riseF o.F o.n = false) : chkO o = 32 := by unfold chkO; rw [if_neg h, if_neg (by rw [h2]; decide)]
theorem chk_bad {o : Od} (h : ¬ 4 < o.n) (h2 : riseF o.F o.n = true) (h3 : okO o = false) : chkO o = 8 := by unfold chkO; rw [if_neg h, if_pos h2, if_neg (by rw [h3]; decide)]
theorem chk_ok {o : Od} (h : ¬ 4 < o.n) (h2 : riseF o.F o.n = true) (h3 : okO o = true) : chkO o = 0 := by unfold chkO; rw [if_neg h, if_pos h2, if_pos h3]
set_option maxHeartbeats 4000000 in
set_option maxRecDepth 100000 in
theorem opCheck_any (o : Od) (fo : o.Fit) (pv : Value) (w : World) (hp : RdI w pv o.n o.F) :
    Calls Tryz.prog 80 #[.agg (o.c pv)] w fun e w' => e = .returned (.int .i64 (chkO o)) ∧ Below w.heap.size w w' := by
  obtain ⟨W, hW⟩ : ∃ W, W = w.alloc (.cells (o.c pv) 35) := ⟨_, rfl⟩
  have hr0 := heap_alloc_new w (.cells (o.c pv) 35)
  have hb0 := (Below.refl w.heap.size w).alloc (Nat.le_refl _) (.cells (o.c pv) 35)
  rw [← hW] at hr0 hb0
  obtain ⟨pa, pc, rfl⟩ := hp.slice
  have hb1 := Lib.hid hb0
  have hp1 := Lib.hid (hp.mono hb0)
  have hrow := Lib.hid hr0
  obtain ⟨c0, c1, c2, _, _, _, _⟩ := cellsO hr0
  have hmids := Lib.hid (fun (wz : World) (h : Below W.heap.size W wz) => (cellsO (rowB hrow.out h (Array.getElem?_eq_some_iff.1 hr0).1)))
  clear hr0 hb0 hp
  by_cases h1 : 4 < o.n
  · have e := Lib.hid (chk_many h1)
    generalize chkO o = R at *
    have h1' : (4 : Int) < (o.n : Int) := by omega
    clear h1
    go_enter Tryz.func80, Tryz.ntmps80
    go_upto_region 1 with fail
    rw [← hW]
    clear hW
    go_wp2
    go_ret
    exact ⟨ret_int e.out.symm, hb1.out⟩
  have h1' : ¬ (4 : Int) < (o.n : Int) := by omega
  have hI := Lib.hid (opIncrease_any o.F o.n _ W hp1.out fo.F fo.n)
  cases h2 : riseF o.F o.n
  · have e := Lib.hid (chk_order h1 h2)
    rw [h2] at hI
    generalize chkO o = R at *
    clear h1 h2
    go_enter Tryz.func80, Tryz.ntmps80
    go_upto_region 1 with fail
    rw [← hW]
    clear hW
    go_wp2_with (go_at_call 121; (with_reducible refine (hI.out).mono ?_); rintro e w3 ⟨rfl, h3⟩; have hb3 := Lib.hid (hb1.out.trans (h3.mono hb1.out.size)); clear h3)
    go_ret
    exact ⟨ret_int e.out.symm, hb3.out⟩
  rw [h2] at hI
  have hG := Lib.hid (fun w => grp.is_any o.au fo.au w)
  have hA := Lib.hid (fun w => validAct_any o.k o.key o.v fo.v fo.key w)
  have hS := Lib.hid (fun w => validSig_any (o.e : Int) (o.s : Int) w)
  have hok : okO o = (grp.inG o.au && (decide ((o.st : Int) ≤ 1000000000000) && (actB o.k o.key o.v && sigB (o.e : Int) (o.s : Int)))) := rfl
  have hbad := Lib.hid (fun h => chk_bad h1 h2 h)
  have hyes := Lib.hid (fun h => chk_ok h1 h2 h)
  clear h1 h2 hrow fo hp1
  generalize chkO o = R at *
  generalize okO o = OK at *
  generalize grp.inG o.au = G at *
  generalize actB o.k o.key o.v = AB at *
  generalize sigB (o.e : Int) (o.s : Int) = SB at *
  go_enter Tryz.func80, Tryz.ntmps80
  generalize hc : (1000000000000 : Int) = c at hok ⊢
  go_upto_region 1 with fail
  rw [← hW]
  clear hW
  go_upto_region 5 with (go_at_call 121; (with_reducible refine (hI.out).mono ?_); rintro e w3 ⟨rfl, h3⟩; have hb3 := Lib.hid h3; clear h3)
  clear c0 c1 c2 hI
  obtain ⟨c0, _, c2, _, _, _, _⟩ := hmids.out _ hb3.out
  cases G
  · have e := Lib.hid (hbad.out (by rw [hok]; rfl))
    clear hok hbad hyes
    go_wp2_with (first | (go_at_call 122; (with_reducible refine (hG.out _).mono ?_); rintro e w4 ⟨rfl, h4⟩; replace hb3 := Lib.hid (hb3.out.trans (Below.mono (show Below _ _ _ from h4) hb3.out.size)); clear h4; obtain ⟨c0, _, c2, _, _, _, _⟩ := hmids.out _ hb3.out) | (go_at_call 123; (with_reducible refine (hA.out _).mono ?_); rintro e w5 ⟨rfl, h5⟩; replace hb3 := Lib.hid (hb3.out.trans (Below.mono (show Below _ _ _ from h5) hb3.out.size)); clear h5; obtain ⟨c0, _, c2, _, _, _, _⟩ := hmids.out _ hb3.out) | (go_at_call 124; (with_reducible refine (hS.out _).mono ?_); rintro e w6 ⟨rfl, h6⟩; replace hb3 := Lib.hid (hb3.out.trans (Below.mono (show Below _ _ _ from h6) hb3.out.size)); clear h6; obtain ⟨c0, _, c2, _, _, _, _⟩ := hmids.out _ hb3.out) | (refine wpList_midV rfl 31 _ rfl w.heap.size 3 rfl [.int .u8 o.k, .string o.key, .int .u8 o.v.k, .int .i64 o.v.n, .int .u64 (o.v.b : Int), .string o.v.s] _ (hmids.out _ hb3.out).2.2.2.1 Tryz.underlying31 rfl info_act ?_) | (refine wpList_midV rfl 33 _ rfl w.heap.size 9 rfl [.int .u32 (o.e : Int), .int .u32 (o.s : Int)] _ (hmids.out _ hb3.out).2.2.2.2.1 Tryz.underlying33 rfl info_sig ?_))
    go_ret
    exact ⟨ret_int e.out.symm, hb1.out.trans (hb3.out.mono hb1.out.size)⟩
  by_cases h5 : (o.st : Int) ≤ c
  · have h6 : decide (c < (o.st : Int)) = false := decide_eq_false (by omega)
    cases AB
    · have e := Lib.hid (hbad.out (by rw [hok]; rw [decide_eq_true h5]; rfl))
      clear hok hbad hyes
      go_wp2_with (first | (go_at_call 122; (with_reducible refine (hG.out _).mono ?_); rintro e w4 ⟨rfl, h4⟩; replace hb3 := Lib.hid (hb3.out.trans (Below.mono (show Below _ _ _ from h4) hb3.out.size)); clear h4; obtain ⟨c0, _, c2, _, _, _, _⟩ := hmids.out _ hb3.out) | (go_at_call 123; (with_reducible refine (hA.out _).mono ?_); rintro e w5 ⟨rfl, h5⟩; replace hb3 := Lib.hid (hb3.out.trans (Below.mono (show Below _ _ _ from h5) hb3.out.size)); clear h5; obtain ⟨c0, _, c2, _, _, _, _⟩ := hmids.out _ hb3.out) | (go_at_call 124; (with_reducible refine (hS.out _).mono ?_); rintro e w6 ⟨rfl, h6⟩; replace hb3 := Lib.hid (hb3.out.trans (Below.mono (show Below _ _ _ from h6) hb3.out.size)); clear h6; obtain ⟨c0, _, c2, _, _, _, _⟩ := hmids.out _ hb3.out) | (refine wpList_midV rfl 31 _ rfl w.heap.size 3 rfl [.int .u8 o.k, .string o.key, .int .u8 o.v.k, .int .i64 o.v.n, .int .u64 (o.v.b : Int), .string o.v.s] _ (hmids.out _ hb3.out).2.2.2.1 Tryz.underlying31 rfl info_act ?_) | (refine wpList_midV rfl 33 _ rfl w.heap.size 9 rfl [.int .u32 (o.e : Int), .int .u32 (o.s : Int)] _ (hmids.out _ hb3.out).2.2.2.2.1 Tryz.underlying33 rfl info_sig ?_))
      go_ret
      exact ⟨ret_int e.out.symm, hb1.out.trans (hb3.out.mono hb1.out.size)⟩
    cases SB
    · have e := Lib.hid (hbad.out (by rw [hok]; rw [decide_eq_true h5]; rfl))
      clear hok hbad hyes
      go_wp2_with (first | (go_at_call 122; (with_reducible refine (hG.out _).mono ?_); rintro e w4 ⟨rfl, h4⟩; replace hb3 := Lib.hid (hb3.out.trans (Below.mono (show Below _ _ _ from h4) hb3.out.size)); clear h4; obtain ⟨c0, _, c2, _, _, _, _⟩ := hmids.out _ hb3.out) | (go_at_call 123; (with_reducible refine (hA.out _).mono ?_); rintro e w5 ⟨rfl, h5⟩; replace hb3 := Lib.hid (hb3.out.trans (Below.mono (show Below _ _ _ from h5) hb3.out.size)); clear h5; obtain ⟨c0, _, c2, _, _, _, _⟩ := hmids.out _ hb3.out) | (go_at_call 124; (with_reducible refine (hS.out _).mono ?_); rintro e w6 ⟨rfl, h6⟩; replace hb3 := Lib.hid (hb3.out.trans (Below.mono (show Below _ _ _ from h6) hb3.out.size)); clear h6; obtain ⟨c0, _, c2, _, _, _, _⟩ := hmids.out _ hb3.out) | (refine wpList_midV rfl 31 _ rfl w.heap.size 3 rfl [.int .u8 o.k, .string o.key, .int .u8 o.v.k, .int .i64 o.v.n, .int .u64 (o.v.b : Int), .string o.v.s] _ (hmids.out _ hb3.out).2.2.2.1 Tryz.underlying31 rfl info_act ?_) | (refine wpList_midV rfl 33 _ rfl w.heap.size 9 rfl [.int .u32 (o.e : Int), .int .u32 (o.s : Int)] _ (hmids.out _ hb3.out).2.2.2.2.1 Tryz.underlying33 rfl info_sig ?_))
      go_ret
      exact ⟨ret_int e.out.symm, hb1.out.trans (hb3.out.mono hb1.out.size)⟩
    have e := Lib.hid (hyes.out (by rw [hok, decide_eq_true h5]; rfl))
    clear hok hbad hyes
    go_wp2_with (first | (go_at_call 122; (with_reducible refine (hG.out _).mono ?_); rintro e w4 ⟨rfl, h4⟩; replace hb3 := Lib.hid (hb3.out.trans (Below.mono (show Below _ _ _ from h4) hb3.out.size)); clear h4; obtain ⟨c0, _, c2, _, _, _, _⟩ := hmids.out _ hb3.out) | (go_at_call 123; (with_reducible refine (hA.out _).mono ?_); rintro e w5 ⟨rfl, h5⟩; replace hb3 := Lib.hid (hb3.out.trans (Below.mono (show Below _ _ _ from h5) hb3.out.size)); clear h5; obtain ⟨c0, _, c2, _, _, _, _⟩ := hmids.out _ hb3.out) | (go_at_call 124; (with_reducible refine (hS.out _).mono ?_); rintro e w6 ⟨rfl, h6⟩; replace hb3 := Lib.hid (hb3.out.trans (Below.mono (show Below _ _ _ from h6) hb3.out.size)); clear h6; obtain ⟨c0, _, c2, _, _, _, _⟩ := hmids.out _ hb3.out) | (refine wpList_midV rfl 31 _ rfl w.heap.size 3 rfl [.int .u8 o.k, .string o.key, .int .u8 o.v.k, .int .i64 o.v.n, .int .u64 (o.v.b : Int), .string o.v.s] _ (hmids.out _ hb3.out).2.2.2.1 Tryz.underlying31 rfl info_act ?_) | (refine wpList_midV rfl 33 _ rfl w.heap.size 9 rfl [.int .u32 (o.e : Int), .int .u32 (o.s : Int)] _ (hmids.out _ hb3.out).2.2.2.2.1 Tryz.underlying33 rfl info_sig ?_))
    go_ret
    exact ⟨ret_int e.out.symm, hb1.out.trans (hb3.out.mono hb1.out.size)⟩
  · have h6 : decide (c < (o.st : Int)) = true := decide_eq_true (by omega)
    have e := Lib.hid (hbad.out (by rw [hok]; rw [decide_eq_false h5]; rfl))
    clear hok hbad hyes
    go_wp2_with (first | (go_at_call 122; (with_reducible refine (hG.out _).mono ?_); rintro e w4 ⟨rfl, h4⟩; replace hb3 := Lib.hid (hb3.out.trans (Below.mono (show Below _ _ _ from h4) hb3.out.size)); clear h4; obtain ⟨c0, _, c2, _, _, _, _⟩ := hmids.out _ hb3.out) | (go_at_call 123; (with_reducible refine (hA.out _).mono ?_); rintro e w5 ⟨rfl, h5⟩; replace hb3 := Lib.hid (hb3.out.trans (Below.mono (show Below _ _ _ from h5) hb3.out.size)); clear h5; obtain ⟨c0, _, c2, _, _, _, _⟩ := hmids.out _ hb3.out) | (go_at_call 124; (with_reducible refine (hS.out _).mono ?_); rintro e w6 ⟨rfl, h6⟩; replace hb3 := Lib.hid (hb3.out.trans (Below.mono (show Below _ _ _ from h6) hb3.out.size)); clear h6; obtain ⟨c0, _, c2, _, _, _, _⟩ := hmids.out _ hb3.out) | (refine wpList_midV rfl 31 _ rfl w.heap.size 3 rfl [.int .u8 o.k, .string o.key, .int .u8 o.v.k, .int .i64 o.v.n, .int .u64 (o.v.b : Int), .string o.v.s] _ (hmids.out _ hb3.out).2.2.2.1 Tryz.underlying31 rfl info_act ?_) | (refine wpList_midV rfl 33 _ rfl w.heap.size 9 rfl [.int .u32 (o.e : Int), .int .u32 (o.s : Int)] _ (hmids.out _ hb3.out).2.2.2.2.1 Tryz.underlying33 rfl info_sig ?_))
    go_ret
    exact ⟨ret_int e.out.symm, hb1.out.trans (hb3.out.mono hb1.out.size)⟩
end Go.Proofs.YtlbgffhipondiaaGreatDoor.wir.val
namespace Go.Proofs.YtlbgffhipondiaaGreatDoor.wir.val
open Go.RowKit Go.YtlbgffhipondiaaGreatDoor
set_option linter.unusedVariables false
theorem nat_int_lt (a : Nat) : decide (a < 500000003) = decide ((a : Int) < 500000003) := by rw [Bool.eq_iff_iff, decide_eq_true_iff, decide_eq_true_iff]; omega
set_option maxHeartbeats 4000000 in
set_option maxRecDepth 100000 in
theorem ropCheck_any (o : Od) (fo : o.Fit) (pv : Value) (w : World) (hp : RdI w pv o.n o.F) :
    Calls Tryz.prog 131 #[.agg (o.c pv)] w fun e w' => e = .returned (.int .i64 (chkO o)) ∧ Below w.heap.size w w' := by
  obtain ⟨W, hW⟩ : ∃ W, W = w.alloc (.cells (o.c pv) 35) := ⟨_, rfl⟩
  have hr0 := heap_alloc_new w (.cells (o.c pv) 35)
  have hb0 := (Below.refl w.heap.size w).alloc (Nat.le_refl _) (.cells (o.c pv) 35)
  rw [← hW] at hr0 hb0
  obtain ⟨pa, pc, rfl⟩ := hp.slice
  have hb1 := Lib.hid hb0
  have hp1 := Lib.hid (hp.mono hb0)
  have hrow := Lib.hid hr0
  obtain ⟨c0, c1, c2, _, _, _, _⟩ := cellsO hr0
  have hmids := Lib.hid (fun (wz : World) (h : Below W.heap.size W wz) => (cellsO (rowB hrow.out h (Array.getElem?_eq_some_iff.1 hr0).1)))
  clear hr0 hb0 hp
  by_cases h1 : 4 < o.n
  · have e := Lib.hid (chk_many h1)
    generalize chkO o = R at *
    have h1' : (4 : Int) < (o.n : Int) := by omega
    clear h1
    go_enter Tryz.func131, Tryz.ntmps131
    go_upto_region 1 with fail
    rw [← hW]
    clear hW
    go_wp2
    go_ret
    exact ⟨ret_int e.out.symm, hb1.out⟩
  have h1' : ¬ (4 : Int) < (o.n : Int) := by omega
  have hI := Lib.hid (rising_any o.F o.n _ W hp1.out fo.F fo.n)
  cases h2 : riseF o.F o.n
  · have e := Lib.hid (chk_order h1 h2)
    rw [h2] at hI
    generalize chkO o = R at *
    clear h1 h2
    go_enter Tryz.func131, Tryz.ntmps131
    go_upto_region 1 with fail
    rw [← hW]
    clear hW
    go_wp2_with (go_at_call 36; (with_reducible refine (hI.out).mono ?_); rintro e w3 ⟨rfl, h3⟩; have hb3 := Lib.hid (hb1.out.trans (h3.mono hb1.out.size)); clear h3)
    go_ret
    exact ⟨ret_int e.out.symm, hb3.out⟩
  rw [h2] at hI
  have hG := Lib.hid (fun w => grp.ris_any o.au fo.au w)
  have hA := Lib.hid (fun w => rcheckAct_any o.k o.key o.v fo.v fo.key w)
  have hE1 := Lib.hid (fun w => grp.exponent_any o.e fo.e w)
  have hE2 := Lib.hid (fun w => grp.exponent_any o.s fo.s w)
  rw [nat_int_lt] at hE1 hE2
  unfold actE at hA
  have hok : okO o = (grp.inG o.au && (decide ((o.st : Int) ≤ 1000000000000) && (actB o.k o.key o.v && (decide ((o.e : Int) < 500000003) && decide ((o.s : Int) < 500000003))))) := rfl
  have hbad := Lib.hid (fun h => chk_bad h1 h2 h)
  have hyes := Lib.hid (fun h => chk_ok h1 h2 h)
  clear h1 h2 hrow fo hp1
  generalize chkO o = R at *
  generalize okO o = OK at *
  generalize grp.inG o.au = G at *
  generalize actB o.k o.key o.v = AB at *
  generalize decide ((o.e : Int) < 500000003) = X1 at *
  generalize decide ((o.s : Int) < 500000003) = X2 at *
  go_enter Tryz.func131, Tryz.ntmps131
  generalize hc : (1000000000000 : Int) = c at hok ⊢
  go_upto_region 1 with fail
  rw [← hW]
  clear hW
  go_upto_region 5 with (go_at_call 36; (with_reducible refine (hI.out).mono ?_); rintro e w3 ⟨rfl, h3⟩; have hb3 := Lib.hid h3; clear h3)
  clear c0 c1 c2 hI
  obtain ⟨c0, _, c2, _, _, c9, c10⟩ := hmids.out _ hb3.out
  cases G
  · have e := Lib.hid (hbad.out (by rw [hok]; rfl))
    clear hok hbad hyes
    go_wp2_with (first | (go_at_call 175; (with_reducible refine (hG.out _).mono ?_); rintro e w4 ⟨rfl, rfl⟩) | (go_at_call 176; (with_reducible refine (hA.out _).mono ?_); rintro e w5 ⟨rfl, h5⟩; replace hb3 := Lib.hid (hb3.out.trans (Below.mono (show Below _ _ _ from h5) hb3.out.size)); clear h5; obtain ⟨c0, _, c2, _, _, c9, c10⟩ := hmids.out _ hb3.out) | (go_at_call 177; (first | (with_reducible refine (hE1.out _).mono ?_) | (with_reducible refine (hE2.out _).mono ?_)); rintro e w6 ⟨rfl, rfl⟩) | (refine wpList_midV rfl 31 _ rfl w.heap.size 3 rfl [.int .u8 o.k, .string o.key, .int .u8 o.v.k, .int .i64 o.v.n, .int .u64 (o.v.b : Int), .string o.v.s] _ (hmids.out _ hb3.out).2.2.2.1 Tryz.underlying31 rfl info_act ?_))
    go_ret
    exact ⟨ret_int e.out.symm, hb1.out.trans (hb3.out.mono hb1.out.size)⟩
  by_cases h5 : (o.st : Int) ≤ c
  · have h6 : decide (c < (o.st : Int)) = false := decide_eq_false (by omega)
    cases AB
    · simp only [Bool.false_eq_true, if_false] at hA
      have e := Lib.hid (hbad.out (by rw [hok]; rw [decide_eq_true h5]; rfl))
      clear hok hbad hyes
      go_wp2_with (first | (go_at_call 175; (with_reducible refine (hG.out _).mono ?_); rintro e w4 ⟨rfl, rfl⟩) | (go_at_call 176; (with_reducible refine (hA.out _).mono ?_); rintro e w5 ⟨rfl, h5⟩; replace hb3 := Lib.hid (hb3.out.trans (Below.mono (show Below _ _ _ from h5) hb3.out.size)); clear h5; obtain ⟨c0, _, c2, _, _, c9, c10⟩ := hmids.out _ hb3.out) | (go_at_call 177; (first | (with_reducible refine (hE1.out _).mono ?_) | (with_reducible refine (hE2.out _).mono ?_)); rintro e w6 ⟨rfl, rfl⟩) | (refine wpList_midV rfl 31 _ rfl w.heap.size 3 rfl [.int .u8 o.k, .string o.key, .int .u8 o.v.k, .int .i64 o.v.n, .int .u64 (o.v.b : Int), .string o.v.s] _ (hmids.out _ hb3.out).2.2.2.1 Tryz.underlying31 rfl info_act ?_))
      go_ret
      exact ⟨ret_int e.out.symm, hb1.out.trans (hb3.out.mono hb1.out.size)⟩
    simp only [if_true] at hA
    cases X1
    · have e := Lib.hid (hbad.out (by rw [hok]; rw [decide_eq_true h5]; rfl))
      clear hok hbad hyes
      go_wp2_with (first | (go_at_call 175; (with_reducible refine (hG.out _).mono ?_); rintro e w4 ⟨rfl, rfl⟩) | (go_at_call 176; (with_reducible refine (hA.out _).mono ?_); rintro e w5 ⟨rfl, h5⟩; replace hb3 := Lib.hid (hb3.out.trans (Below.mono (show Below _ _ _ from h5) hb3.out.size)); clear h5; obtain ⟨c0, _, c2, _, _, c9, c10⟩ := hmids.out _ hb3.out) | (go_at_call 177; (first | (with_reducible refine (hE1.out _).mono ?_) | (with_reducible refine (hE2.out _).mono ?_)); rintro e w6 ⟨rfl, rfl⟩) | (refine wpList_midV rfl 31 _ rfl w.heap.size 3 rfl [.int .u8 o.k, .string o.key, .int .u8 o.v.k, .int .i64 o.v.n, .int .u64 (o.v.b : Int), .string o.v.s] _ (hmids.out _ hb3.out).2.2.2.1 Tryz.underlying31 rfl info_act ?_))
      go_ret
      exact ⟨ret_int e.out.symm, hb1.out.trans (hb3.out.mono hb1.out.size)⟩
    cases X2
    · have e := Lib.hid (hbad.out (by rw [hok]; rw [decide_eq_true h5]; rfl))
      clear hok hbad hyes
      go_wp2_with (first | (go_at_call 175; (with_reducible refine (hG.out _).mono ?_); rintro e w4 ⟨rfl, rfl⟩) | (go_at_call 176; (with_reducible refine (hA.out _).mono ?_); rintro e w5 ⟨rfl, h5⟩; replace hb3 := Lib.hid (hb3.out.trans (Below.mono (show Below _ _ _ from h5) hb3.out.size)); clear h5; obtain ⟨c0, _, c2, _, _, c9, c10⟩ := hmids.out _ hb3.out) | (go_at_call 177; (first | (with_reducible refine (hE1.out _).mono ?_) | (with_reducible refine (hE2.out _).mono ?_)); rintro e w6 ⟨rfl, rfl⟩) | (refine wpList_midV rfl 31 _ rfl w.heap.size 3 rfl [.int .u8 o.k, .string o.key, .int .u8 o.v.k, .int .i64 o.v.n, .int .u64 (o.v.b : Int), .string o.v.s] _ (hmids.out _ hb3.out).2.2.2.1 Tryz.underlying31 rfl info_act ?_))
      go_ret
      exact ⟨ret_int e.out.symm, hb1.out.trans (hb3.out.mono hb1.out.size)⟩
    have e := Lib.hid (hyes.out (by rw [hok, decide_eq_true h5]; rfl))
    clear hok hbad hyes
    go_wp2_with (first | (go_at_call 175; (with_reducible refine (hG.out _).mono ?_); rintro e w4 ⟨rfl, rfl⟩) | (go_at_call 176; (with_reducible refine (hA.out _).mono ?_); rintro e w5 ⟨rfl, h5⟩; replace hb3 := Lib.hid (hb3.out.trans (Below.mono (show Below _ _ _ from h5) hb3.out.size)); clear h5; obtain ⟨c0, _, c2, _, _, c9, c10⟩ := hmids.out _ hb3.out) | (go_at_call 177; (first | (with_reducible refine (hE1.out _).mono ?_) | (with_reducible refine (hE2.out _).mono ?_)); rintro e w6 ⟨rfl, rfl⟩) | (refine wpList_midV rfl 31 _ rfl w.heap.size 3 rfl [.int .u8 o.k, .string o.key, .int .u8 o.v.k, .int .i64 o.v.n, .int .u64 (o.v.b : Int), .string o.v.s] _ (hmids.out _ hb3.out).2.2.2.1 Tryz.underlying31 rfl info_act ?_))
    go_ret
    exact ⟨ret_int e.out.symm, hb1.out.trans (hb3.out.mono hb1.out.size)⟩
  · have h6 : decide (c < (o.st : Int)) = true := decide_eq_true (by omega)
    have e := Lib.hid (hbad.out (by rw [hok]; rw [decide_eq_false h5]; rfl))
    clear hok hbad hyes
    go_wp2_with (first | (go_at_call 175; (with_reducible refine (hG.out _).mono ?_); rintro e w4 ⟨rfl, rfl⟩) | (go_at_call 176; (with_reducible refine (hA.out _).mono ?_); rintro e w5 ⟨rfl, h5⟩; replace hb3 := Lib.hid (hb3.out.trans (Below.mono (show Below _ _ _ from h5) hb3.out.size)); clear h5; obtain ⟨c0, _, c2, _, _, c9, c10⟩ := hmids.out _ hb3.out) | (go_at_call 177; (first | (with_reducible refine (hE1.out _).mono ?_) | (with_reducible refine (hE2.out _).mono ?_)); rintro e w6 ⟨rfl, rfl⟩) | (refine wpList_midV rfl 31 _ rfl w.heap.size 3 rfl [.int .u8 o.k, .string o.key, .int .u8 o.v.k, .int .i64 o.v.n, .int .u64 (o.v.b : Int), .string o.v.s] _ (hmids.out _ hb3.out).2.2.2.1 Tryz.underlying31 rfl info_act ?_))
    go_ret
    exact ⟨ret_int e.out.symm, hb1.out.trans (hb3.out.mono hb1.out.size)⟩
end Go.Proofs.YtlbgffhipondiaaGreatDoor.wir.val
namespace Go.Proofs.YtlbgffhipondiaaGreatDoor.wir.val
open Go.RowKit Go.YtlbgffhipondiaaGreatDoor
set_option linter.unusedVariables false
/-- The bytes of a valid value. -/
def encB (k n : Int) (b : Nat) (s : ByteArray) : List Int := if k = 1 then 1 :: numB (foldN n) else if k = 2 then 2 :: be 8 b else 3 :: textB (sI s)
set_option maxHeartbeats 2000000 in
set_option maxRecDepth 100000 in
theorem enc_num (n : Int) (b : Nat) (s : ByteArray) (fv : VFit 1 n b s) (hv : validV 1 n b s = true) (w : World) :
    Calls Tryz.prog 130 #[vA 1 n b s] w fun e w' => ∃ sv, e = .returned (.tuple #[sv, .int .i64 0]) ∧ OwnB w.heap.size 5 w' sv (encB 1 n b s) ∧ Below w.heap.size w w' := by
  have hV := Lib.hid (fun w => valid_any 1 n b s fv.k fv.b fv.s w)
  rw [hv] at hV
  have hS := Lib.hid (fun w => signed_any n fv.n.1 fv.n.2 w)
  have hlen : numL (foldN n) ≤ 9 := numL_le _ (fold_lt n fv.n)
  have hl := numB_length (foldN n)
  have e := Lib.hid (show encB 1 n b s = [1] ++ numB (foldN n) from rfl)
  generalize encB 1 n b s = EB at *
  generalize numB (foldN n) = NB at *
  generalize numL (foldN n) = NL at *
  have hp := Lib.hid (heap_alloc_new w (.cells (vC 1 n b s) 29))
  have hB := Lib.hid (below_a w (.cells (vC 1 n b s) 29))
  have hl' := Lib.hid hl
  have hlen' := Lib.hid hlen
  clear fv hv hl hlen
  go_enter Tryz.func130, Tryz.ntmps130
  go_wp2_with (first | (go_at_call 172; (with_reducible refine (hV.out _).mono ?_); rintro e w9 ⟨rfl, h9⟩; have hp9 := Lib.hid (rowB hp.out h9 (Array.getElem?_eq_some_iff.1 hp.out).1); have hB9 := Lib.hid (hB.out.trans (h9.mono hB.out.size)); clear h9; refine Stop.go'' _ ?_) | (refine wpList_load_row_g rfl 29 _ rfl w.heap.size rfl 29 (vC 1 n b s) (0, 0) _ hp.out Tryz.underlying29 rfl info_val ?_))
  refine StopP.go ?_
  have hg := Lib.hid (heap_alloc_new w9 (.cells #[.int .u8 1] 5))
  have ho := Lib.hid (ownB_row (cs := [1]) hg.out 1 rfl (by decide) hB9.out.size)
  have hp1 := Lib.hid (rowB hp9.out (below_a w9 (.cells #[.int .u8 1] 5)) (Array.getElem?_eq_some_iff.1 hp9.out).1)
  have hB1 := Lib.hid (hB9.out.trans ((below_a w9 (.cells #[.int .u8 1] 5)).mono hB9.out.size))
  have es := Lib.hid (show (w9.alloc (.cells #[.int .u8 1] 5)).heap.size = w9.heap.size + 1 by simp)
  obtain ⟨c0, c1, c2, c3⟩ := cellsV hp9.out
  obtain ⟨d0, d1, d2, d3⟩ := cellsV hp1.out
  go_wp2_with (go_at_call 173; (with_reducible refine (hS.out _).mono ?_); rintro e w2 ⟨rfl, h2, h3⟩; rw [es.out] at h2; have hr2 := Lib.hid (rdB_row h2 NL hl'.out (Nat.le_trans hlen'.out (by decide))); have ho2 := Lib.hid (ho.out.kept h3); have hB2 := Lib.hid (hB1.out.trans (h3.mono hB1.out.size)); clear h2 h3 d0 d1 d2 d3 c0 c1 c2 c3; refine Stop.go'' _ ?_)
  refine StopP.go ?_
  go_wp2_with (refine appendB rfl _ _ 101 rfl w.heap.size 5 Tryz.underlying101 (by kernel_rfl) _ rfl [1] ho2.out _ rfl NB hr2.out (by rw [hl'.out]; have := hlen'.out; simp; omega) hB2.out.size ?_)
  intro v' w3 h4 h5
  have h4' := Lib.hid h4
  have h5' := Lib.hid (hB2.out.trans (ho2.out.below h5 hB2.out.size))
  clear h4 h5
  refine Stop.go ?_
  go_wp2
  go_ret2
  exact ⟨_, rfl, by rw [e.out]; exact h4'.out, h5'.out⟩
theorem ith_be8 (b j : Nat) (h : j < 8) : ith (be 8 b) j = ((b / 256 ^ (7 - j) % 256 : Nat) : Int) := by
  rw [ith_be 8 b j h]
set_option maxHeartbeats 2000000 in
set_option maxRecDepth 100000 in
theorem appendEight_any (B : Nat) (v : Value) (l : List Int) (b : Nat) (hb : b < 18446744073709551616) (w : World) (ho : OwnB B 5 w v l) (hl : l.length ≤ 1000) (hB : B ≤ w.heap.size) :
    Calls Tryz.prog 174 #[v, .int .u64 (b : Int)] w fun e w' => ∃ v', e = .returned v' ∧ OwnB B 5 w' v' (l ++ be 8 b) ∧ Below B w w' := by
  have hE := Lib.hid (ith_be8 b)
  have hT := Lib.hid (fun j (h : j < 8) => take_succ_ith (be 8 b) j (by rw [be_length]; exact h))
  have hA := Lib.hid (show (be 8 b).take 8 = be 8 b from List.take_of_length_le (by rw [be_length]; exact Nat.le_refl _))
  have hL := Lib.hid (fun j (h : j ≤ 8) => (show ((be 8 b).take j).length = j by rw [List.length_take, be_length]; omega))
  generalize be 8 b = E at *
  have ho' := Lib.hid ho
  have hl' := Lib.hid hl
  have hB' := Lib.hid hB
  clear ho hl hB hb
  go_enter Tryz.func174, Tryz.ntmps174
  go_wp2
  go_loopw [0, 5] (fun x i wr => ∃ j : Nat, j ≤ 8 ∧ i = .int .i64 (56 - 8 * (j : Int)) ∧ OwnB B 5 wr x (l ++ E.take j) ∧ Below B w wr) (fun _ i _ => (intOf i + 8).toNat)
  case atStart => exact ⟨0, by decide, rfl, by simpa using ho'.out, Below.refl _ _⟩
  case round =>
    obtain ⟨j, hj, rfl, hx, hy⟩ := hrel
    obtain ⟨xa, xc, rfl⟩ := hx.rd.slice
    have hx' := Lib.hid hx
    have hy' := Lib.hid hy
    have hlen := Lib.hid (show (l ++ E.take j).length ≤ 1008 by have := hl'.out; have := hL.out j hj; simp only [List.length_append]; omega)
    clear hx hy
    generalize (l ++ E.take j).length = N at *
    by_cases hlt : j < 8
    · have g1 : (0 : Int) ≤ 56 - 8 * (j : Int) := by omega
      have hby : ith E j = (b : Int) / 2 ^ (8 * (7 - j)) % 256 := by
        rw [hE.out j hlt, pow256]
        rw [show (2 : Int) ^ (8 * (7 - j)) = ((2 ^ (8 * (7 - j)) : Nat) : Int) by simp]
        omega
      obtain ⟨t, ht⟩ : ∃ t : Nat, 8 * (7 - j) = t := ⟨_, rfl⟩
      rw [ht] at hby
      rw [show 56 - 8 * (j : Int) = (t : Int) by omega] at g1 ⊢
      have g2 : t < 64 := by omega
      have ht' := Lib.hid ht
      have hby' := Lib.hid hby
      have hn := Lib.hid (show RdB (wr.alloc (.cells #[.int .u8 ((b : Int) / 2 ^ t % 256)] 5)) (.slice (some ⟨wr.heap.size, 0, none⟩) 1 1) [((b : Int) / 2 ^ t % 256)] from rdB_row (cs := [((b : Int) / 2 ^ t % 256)]) (heap_alloc_new wr (.cells (u8s [((b : Int) / 2 ^ t % 256)]) 5)) 1 rfl (by decide))
      have hox := Lib.hid (show OwnB B 5 (wr.alloc (.cells #[.int .u8 ((b : Int) / 2 ^ t % 256)] 5)) (.slice xa N xc) (l ++ E.take j) from hx'.out.kept (below_a wr _))
      have hyx := Lib.hid (show Below B w (wr.alloc (.cells #[.int .u8 ((b : Int) / 2 ^ t % 256)] 5)) from hy'.out.trans ((below_a wr _).mono (Nat.le_trans hB'.out hy'.out.size)))
      clear ht hby
      go_wp2_with (refine appendB rfl _ _ 101 rfl B 5 Tryz.underlying101 (by kernel_rfl) _ rfl _ hox.out _ rfl _ hn.out (by have h1 := hl'.out; have h2 := hL.out j hj; simp only [List.length_append, List.length_cons, List.length_nil]; omega) (Nat.le_trans hB'.out hyx.out.size) ?_)
      intro v' w4 h4 h5
      have h4' := Lib.hid h4
      have h5' := Lib.hid (hyx.out.trans (hox.out.below h5 (Nat.le_trans hB'.out hyx.out.size)))
      clear h4 h5
      refine Stop.go ?_
      go_wp2
      go_roundw
      case rel => exact ⟨j + 1, by omega, by have := ht'.out; go_num, by rw [hT.out j hlt, hby'.out]; exact h4'.out, h5'.out⟩
      case measure => have := ht'.out; simp [intOf]; omega
    · obtain rfl : j = 8 := by omega
      rw [hA.out] at hx'
      have g1 : ¬ (0 : Int) ≤ 56 - 8 * ((8 : Nat) : Int) := by decide
      clear hlt
      go_wp2
      go_ret
      exact ⟨_, rfl, hx'.out, hy'.out⟩
set_option maxHeartbeats 2000000 in
set_option maxRecDepth 100000 in
theorem enc_flt (n : Int) (b : Nat) (s : ByteArray) (fv : VFit 2 n b s) (hv : validV 2 n b s = true) (w : World) :
    Calls Tryz.prog 130 #[vA 2 n b s] w fun e w' => ∃ sv, e = .returned (.tuple #[sv, .int .i64 0]) ∧ OwnB w.heap.size 5 w' sv (encB 2 n b s) ∧ Below w.heap.size w w' := by
  have hV := Lib.hid (fun w => valid_any 2 n b s fv.k fv.b fv.s w)
  rw [hv] at hV
  have hE := Lib.hid (fun (W : World) (v : Value) (w : World) (ho : OwnB W.heap.size 5 w v [2]) (hB : W.heap.size ≤ w.heap.size) => appendEight_any W.heap.size v [2] b fv.b w ho (by decide) hB)
  have e := Lib.hid (show encB 2 n b s = [2] ++ be 8 b from rfl)
  generalize encB 2 n b s = EB at *
  have hp := Lib.hid (heap_alloc_new w (.cells (vC 2 n b s) 29))
  have hB := Lib.hid (below_a w (.cells (vC 2 n b s) 29))
  clear fv hv
  go_enter Tryz.func130, Tryz.ntmps130
  go_wp2_with (first | (go_at_call 172; (with_reducible refine (hV.out _).mono ?_); rintro e w9 ⟨rfl, h9⟩; have hp9 := Lib.hid (rowB hp.out h9 (Array.getElem?_eq_some_iff.1 hp.out).1); have hB9 := Lib.hid (hB.out.trans (h9.mono hB.out.size)); clear h9; refine Stop.go'' _ ?_) | (refine wpList_load_row_g rfl 29 _ rfl w.heap.size rfl 29 (vC 2 n b s) (0, 0) _ hp.out Tryz.underlying29 rfl info_val ?_))
  refine StopP.go ?_
  have hg := Lib.hid (heap_alloc_new w9 (.cells #[.int .u8 2] 5))
  have ho := Lib.hid (ownB_row (cs := [2]) hg.out 1 rfl (by decide) hB9.out.size)
  have hp1 := Lib.hid (rowB hp9.out (below_a w9 (.cells #[.int .u8 2] 5)) (Array.getElem?_eq_some_iff.1 hp9.out).1)
  have hB1 := Lib.hid (hB9.out.trans ((below_a w9 (.cells #[.int .u8 2] 5)).mono hB9.out.size))
  have es := Lib.hid (show (w9.alloc (.cells #[.int .u8 2] 5)).heap.size = w9.heap.size + 1 by simp)
  obtain ⟨c0, c1, c2, c3⟩ := cellsV hp9.out
  obtain ⟨d0, d1, d2, d3⟩ := cellsV hp1.out
  have hE1 := Lib.hid (hE.out w _ _ ho.out hB1.out.size)
  go_wp2_with (go_at_call 174; (with_reducible refine (hE1.out).mono ?_); rintro e w2 ⟨v', rfl, h2, h3⟩; have h2' := Lib.hid h2; have h3' := Lib.hid (hB1.out.trans h3); clear h2 h3)
  go_ret2
  exact ⟨_, rfl, by rw [e.out]; exact h2'.out, h3'.out⟩
theorem rd_strI (w : World) (s : ByteArray) (hs : s.size ≤ 10000) (m : Nat × Nat) :
    RdB (w.drew.alloc (.cells (bytesRow s (grownCap w s.size 0 5)) 5 m)) (.slice (some ⟨w.heap.size, 0, none⟩) s.size (grownCap w s.size 0 5)) (sI s) := by
  refine .inr ⟨w.heap.size, 0, _, by rw [sI_length], by rw [sI_length]; exact grownCap_ge w _ _ _, grownCap_le_maxLen w _ _ _ (by unfold maxLen; omega), by simp, fun i hi => ?_⟩
  rw [sI_length] at hi
  have hrow : (w.drew.alloc (.cells (bytesRow s (grownCap w s.size 0 5)) 5 m)).heap[w.heap.size]? = some (.cells (bytesRow s (grownCap w s.size 0 5)) 5 m) := heap_alloc_new w.drew _
  rw [Nat.zero_add]
  unfold World.cell?
  rw [hrow]
  have hi' : i < s.data.size := hi
  have hg : s.data[i]? = some s.data[i] := Array.getElem?_eq_getElem hi'
  have hsz : (s.data.map (fun b => Value.int .u8 b.toNat)).size = s.size := by simp
  simp only [bytesRow, Array.getElem?_append, hsz, hi, if_true, Array.getElem?_map, hg, Option.map_some, sI, ith, List.getElem?_map, Array.getElem?_toList, Option.getD_some]
  simp
theorem valid_text {n : Int} {b : Nat} {s : ByteArray} (h : validV 3 n b s = true) : s.size ≤ 30 := by
  unfold validV at h
  rw [if_neg (by decide), if_neg (by decide), if_pos rfl] at h
  simp only [Bool.and_eq_true, decide_eq_true_eq] at h
  exact h.2.2.1
set_option maxHeartbeats 2000000 in
set_option maxRecDepth 100000 in
theorem enc_text (n : Int) (b : Nat) (s : ByteArray) (fv : VFit 3 n b s) (hv : validV 3 n b s = true) (w : World) :
    Calls Tryz.prog 130 #[vA 3 n b s] w fun e w' => ∃ sv, e = .returned (.tuple #[sv, .int .i64 0]) ∧ OwnB w.heap.size 5 w' sv (encB 3 n b s) ∧ Below w.heap.size w w' := by
  have hV := Lib.hid (fun w => valid_any 3 n b s fv.k fv.b fv.s w)
  rw [hv] at hV
  have hs := valid_text hv
  have e := Lib.hid (show encB 3 n b s = [3] ++ textB (sI s) from rfl)
  have hl := Lib.hid (show (textB (sI s)).length ≤ 100 by rw [textB_length, sI_length]; have := numL_le s.size (by omega); omega)
  have kc := fun (w : World) => run_bytes_of_string (P := Tryz.prog) w 9 101 5 s Tryz.underlying9 Tryz.underlying101 Tryz.underlying5
  have hT := Lib.hid (fun (W : World) (m : Nat × Nat) => bytes_any _ (sI s) _ (rd_strI W s (by omega) m) (by rw [sI_length]; omega))
  generalize encB 3 n b s = EB at *
  generalize textB (sI s) = TB at *
  have hp := Lib.hid (heap_alloc_new w (.cells (vC 3 n b s) 29))
  have hB := Lib.hid (below_a w (.cells (vC 3 n b s) 29))
  clear fv hv hs
  go_enter Tryz.func130, Tryz.ntmps130
  go_wp2_with (first | (go_at_call 172; (with_reducible refine (hV.out _).mono ?_); rintro e w9 ⟨rfl, h9⟩; have hp9 := Lib.hid (rowB hp.out h9 (Array.getElem?_eq_some_iff.1 hp.out).1); have hB9 := Lib.hid (hB.out.trans (h9.mono hB.out.size)); clear h9; refine Stop.go'' _ ?_) | (refine wpList_load_row_g rfl 29 _ rfl w.heap.size rfl 29 (vC 3 n b s) (0, 0) _ hp.out Tryz.underlying29 rfl info_val ?_))
  refine StopP.go ?_
  have hg := Lib.hid (heap_alloc_new w9 (.cells #[.int .u8 3] 5))
  have ho := Lib.hid (ownB_row (cs := [3]) hg.out 1 rfl (by decide) hB9.out.size)
  have hp1 := Lib.hid (rowB hp9.out (below_a w9 (.cells #[.int .u8 3] 5)) (Array.getElem?_eq_some_iff.1 hp9.out).1)
  have hB1 := Lib.hid (hB9.out.trans ((below_a w9 (.cells #[.int .u8 3] 5)).mono hB9.out.size))
  have es := Lib.hid (show (w9.alloc (.cells #[.int .u8 3] 5)).heap.size = w9.heap.size + 1 by simp)
  obtain ⟨c0, c1, c2, c3⟩ := cellsV hp9.out
  have hT1 := Lib.hid (fun m => hT.out (w9.alloc (.cells #[.int .u8 3] 5)) m)
  rw [es.out] at hT1
  obtain ⟨d0, d1, d2, d3⟩ := cellsV hp1.out
  have hB2 := Lib.hid (fun o => (show Below (w9.alloc (.cells #[.int .u8 3] 5)).heap.size (w9.alloc (.cells #[.int .u8 3] 5)) ((w9.alloc (.cells #[.int .u8 3] 5)).drew.alloc o) from ((Below.refl (w9.alloc (.cells #[.int .u8 3] 5)).heap.size (w9.alloc (.cells #[.int .u8 3] 5))).drew).alloc (Nat.le_refl _) o))
  go_wp2_with (go_at_call 129; (refine (hT1.out _).mono ?_); rintro e w2 ⟨g, rfl, h2, h3, h4⟩; have hr2 := Lib.hid (rdB_row h3 _ rfl (Nat.le_trans hl.out (by decide))); have hb2 := Lib.hid ((hB2.out _).trans (h4.mono (hB2.out _).size)); have ho2 := Lib.hid (ho.out.kept hb2.out); have hB3 := Lib.hid (hB1.out.trans (hb2.out.mono hB1.out.size)); clear h2 h3 h4 d0 d1 d2 d3 c0 c1 c2 c3; refine Stop.go'' _ ?_)
  refine StopP.go ?_
  go_wp2_with (refine appendB rfl _ _ 101 rfl w.heap.size 5 Tryz.underlying101 (by kernel_rfl) _ rfl [3] ho2.out _ rfl TB hr2.out (by have := hl.out; simp; omega) hB3.out.size ?_)
  intro v' w3 h4 h5
  have h4' := Lib.hid h4
  have h5' := Lib.hid (hB3.out.trans (ho2.out.below h5 hB3.out.size))
  clear h4 h5
  refine Stop.go ?_
  go_wp2
  go_ret2
  exact ⟨_, rfl, by rw [e.out]; exact h4'.out, h5'.out⟩
theorem enc_ok (k n : Int) (b : Nat) (s : ByteArray) (fv : VFit k n b s) (hv : validV k n b s = true) (w : World) :
    Calls Tryz.prog 130 #[vA k n b s] w fun e w' => ∃ sv, e = .returned (.tuple #[sv, .int .i64 0]) ∧ OwnB w.heap.size 5 w' sv (encB k n b s) ∧ Below w.heap.size w w' := by
  have hk := valid_kind hv
  rcases (show k = 1 ∨ k = 2 ∨ k = 3 by omega) with rfl | rfl | rfl
  · exact enc_num n b s fv hv w
  · exact enc_flt n b s fv hv w
  · exact enc_text n b s fv hv w
end Go.Proofs.YtlbgffhipondiaaGreatDoor.wir.val
namespace Go.Proofs.YtlbgffhipondiaaGreatDoor.wir.val
open Go.RowKit Go.YtlbgffhipondiaaGreatDoor
set_option linter.unusedVariables false
end Go.Proofs.YtlbgffhipondiaaGreatDoor.wir.val
namespace Go.Proofs.YtlbgffhipondiaaGreatDoor.wir.val
open Go.RowKit Go.YtlbgffhipondiaaGreatDoor
set_option linter.unusedVariables false
end Go.Proofs.YtlbgffhipondiaaGreatDoor.wir.val

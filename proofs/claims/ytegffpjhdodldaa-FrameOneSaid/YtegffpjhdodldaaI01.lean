/- Lists of ids: what is read, and contracts of what looks whether they increase, and are the same. -/
import Derived.Test.YtegffpjhdodldaaW07
import Derived.Test.YtegffpjhdodldaaP01
import Derived.Test.YtegffpjhdodldaaD01h
import Derived.Test.YtegffpjhdodldaaD01t
import Derived.Test.YtegffpjhdodldaaLibE
import Derived.Deep.MidRow
namespace Go
namespace Ytegffpjhdodldaa
open RowKit
def idF (F : List Int) (i : Nat) : List Int := (F.drop (32 * i)).take 32
theorem idF_length (F : List Int) (n i : Nat) (hF : F.length = 32 * n) (hi : i < n) : (idF F i).length = 32 := by
  rw [idF, List.length_take, List.length_drop]; omega
theorem ith_idF (F : List Int) (i k : Nat) (hk : k < 32) : ith (idF F i) k = ith F (32 * i + k) := by
  rw [idF, ith_take _ _ _ hk, ith_drop]
theorem idF_bytes (F : List Int) (i : Nat) (h : Bytes F) : Bytes (idF F i) := fun k => by
  rcases Nat.lt_or_ge k 32 with hk | hk
  · rw [ith_idF _ _ _ hk]; exact h _
  · rw [ith_over _ _ (by rw [idF, List.length_take]; omega)]; omega
theorem take_ids (F : List Int) (i : Nat) : F.take (32 * i) ++ idF F i = F.take (32 * (i + 1)) := by
  rw [idF, Nat.mul_add, Nat.mul_one, List.take_add]
/-- The slice value 'v' reads as 'n' ids whose bytes, one behind the other, are 'F'. -/
def RdI (w : World) (v : Value) (n : Nat) (F : List Int) : Prop :=
  (∃ a c, v = .slice a 0 c ∧ (a = none → c = 0) ∧ n = 0 ∧ F = []) ∨ ∃ b o c, v = .slice (some ⟨b, o, none⟩) n c ∧ n ≤ c ∧ c ≤ maxLen ∧ b < w.heap.size ∧ F.length = 32 * n ∧ ∀ i, i < F.length → w.cell? ⟨b, o + i, none⟩ = some (.int .u8 (ith F i))
theorem RdI.mono {w w' : World} {v : Value} {n : Nat} {F : List Int} (h : RdI w v n F) (hb : Below w.heap.size w w') : RdI w' v n F := by
  rcases h with h | ⟨b, o, c, hv, h1, h2, h3, h4, h5⟩
  · exact .inl h
  · exact .inr ⟨b, o, c, hv, h1, h2, Nat.lt_of_lt_of_le h3 hb.size, h4, fun i hi => by rw [hb.cell (p := (⟨b, o + i, none⟩ : Addr)) h3]; exact h5 i hi⟩
theorem RdI.slice {w : World} {v : Value} {n : Nat} {F : List Int} (h : RdI w v n F) : ∃ a c, v = .slice a n c := by
  rcases h with ⟨a, c, rfl, _, rfl, _⟩ | ⟨b, o, c, hv, _⟩
  · exact ⟨a, c, rfl⟩
  · exact ⟨_, c, hv⟩
theorem RdI.len {w : World} {v : Value} {n : Nat} {F : List Int} (h : RdI w v n F) : F.length = 32 * n := by
  rcases h with ⟨a, c, _, _, rfl, rfl⟩ | ⟨b, o, c, _, _, _, _, h, _⟩
  · rfl
  · exact h
def idV (l : List Int) : List Value := l.map (Value.int .u8)
theorem idV_arr (l : List Int) : (idV l).toArray = u8s l := rfl
theorem idV_length (l : List Int) : (idV l).length = l.length := by simp [idV]
theorem rdI_at {w wr : World} {a : Option Addr} {n c : Nat} {F : List Int} (h : RdI w (.slice a n c) n F) (hb : Below w.heap.size w wr) (i : Nat) (hi : i < n) :
    ∃ b o, a = some ⟨b, o, none⟩ ∧ b < w.heap.size ∧ n ≤ c ∧ wr.rangeAt b (o + i * 32) (idV (idF F i)) ∧ RdB wr (.slice (some ⟨b, o + i * 32, none⟩) 32 32) (idF F i) := by
  rcases h with ⟨a', c', _, _, rfl, _⟩ | ⟨b, o, c', h1, h2, h3, h4, h5, h6⟩
  · omega
  · cases h1
    have hl := idF_length F n i h5 hi
    have hcell : ∀ k, k < 32 → wr.cell? ⟨b, o + i * 32 + k, none⟩ = some (.int .u8 (ith (idF F i) k)) := fun k hk => by
      rw [hb.cell (p := (⟨b, o + i * 32 + k, none⟩ : Addr)) h4, ith_idF _ _ _ hk, show o + i * 32 + k = o + (32 * i + k) by omega]
      exact h6 _ (by omega)
    refine ⟨b, o, rfl, h4, h2, fun j v hv => ?_, .inr ⟨b, o + i * 32, 32, by rw [hl], by omega, by unfold maxLen; omega, Nat.lt_of_lt_of_le h4 hb.size, fun k hk => hcell k (by omega)⟩⟩
    have hj : j < 32 := by
      have := (List.getElem?_eq_some_iff.1 hv).1
      rw [idV_length, hl] at this; exact this
    rw [hcell j hj, ← hv]
    simp [idV, ith, hl, hj]
/-- Do they increase? -/
def riseF (F : List Int) (n : Nat) : Bool := (List.range (n - 1)).all fun i => decide (cmpF (idF F i) (idF F (i + 1)) < 0)
theorem rise_yes {F : List Int} {n : Nat} (h : ∀ i, i + 1 < n → cmpF (idF F i) (idF F (i + 1)) < 0) : riseF F n = true := by
  unfold riseF
  rw [List.all_eq_true]
  intro i hi
  have := List.mem_range.1 hi
  exact decide_eq_true (h i (by omega))
theorem rise_no {F : List Int} {n : Nat} (i : Nat) (hi : i + 1 < n) (h : ¬ cmpF (idF F i) (idF F (i + 1)) < 0) : riseF F n = false := by
  cases hr : riseF F n with
  | false => rfl
  | true =>
    unfold riseF at hr
    rw [List.all_eq_true] at hr
    have := hr i (List.mem_range.2 (by omega))
    simp only [decide_eq_true_eq] at this
    exact absurd this h
theorem range_drewN {w : World} {b o : Nat} {cs : List Value} (h : w.rangeAt b o cs) (n : Nat) : (w.drewN n).rangeAt b o cs := fun j v hv => h j v hv
end Ytegffpjhdodldaa
end Go
namespace Go.Proofs.Ytegffpjhdodldaa
open Go.RowKit Go.Ytegffpjhdodldaa
set_option linter.unusedVariables false
section
variable {P : Program}
theorem qa_load_mid {C : World → Prop} {o : Oper} {a : Act} (ty : TypeId) (x : Operand) (ho : o.op = .load ty x) (b off : Nat) (hx : a.eval x = .pointer (some ⟨b, off, none⟩)) (l : List Int) (d : TypeDesc)
    (hu : P.underlying ty = some d) (hd : d.isRow = true) (hi : (P.info? ty).map (·.size) = some (idV l).length) (hS : ∀ w, C w → w.rangeAt b off (idV l)) : ∀ w, C w → o.quietAt P a C w (.agg (u8s l)) := fun w hw => qa_ok (by
  unfold execOp
  simp only [ho, hx, Instr.loadAt, Instr.sureAddr, Sem.run_bind, Sem.run_pure, Result.andThen_ok, run_loadVar_mid w b off ty (idV l) d (hS w hw) hu hd hi]
  rfl)
end
set_option maxRecDepth 100000 in
theorem increase_any (F : List Int) (n : Nat) (v : Value) (w : World) (hr : RdI w v n F) (hF : Bytes F) (hn : n ≤ 100000) :
    Calls Try.prog 54 #[v] w fun e w' => e = .returned (.bool (riseF F n)) ∧ Below w.heap.size w w' := by
  have hlen := Lib.hid hr.len
  obtain ⟨a, c, rfl⟩ := hr.slice
  have hr' := Lib.hid hr; have hF' := Lib.hid hF
  clear hr hF
  go_enter Try.func54, Try.ntmps54
  go_wp2
  go_loopw [7] (fun i wr => ∃ k : Nat, (k = 0 ∨ k + 1 ≤ n) ∧ i = .int .i64 k ∧ Below w.heap.size w wr ∧ ∀ j, j < k → cmpF (idF F j) (idF F (j + 1)) < 0) (fun i _ => n - (intOf i).toNat)
  case atStart => exact ⟨0, .inl rfl, rfl, Below.refl _ _, fun j hj => absurd hj (Nat.not_lt_zero _)⟩
  case round =>
    obtain ⟨k, hk, rfl, hb, he⟩ := hrel
    have he' := Lib.hid he; have hb' := Lib.hid hb
    clear he hb
    by_cases hlt : k + 1 < n
    · obtain ⟨b, o, rfl, hbw, hnc, q1, _⟩ := rdI_at hr'.out hb'.out k (by omega)
      obtain ⟨b2, o2, hab, _, _, q2, _⟩ := rdI_at hr'.out hb'.out (k + 1) hlt
      cases hab
      have q1' := Lib.hid q1; have q2' := Lib.hid q2
      have l1 := Lib.hid (idF_length F n k hlen.out (by omega))
      have l2 := Lib.hid (idF_length F n (k + 1) hlen.out hlt)
      have hc := Lib.hid (fun wi => cmp_any (idF F k) (idF F (k + 1)) wi l1.out l2.out (idF_bytes F k hF'.out) (idF_bytes F (k + 1) hF'.out))
      have hno := Lib.hid (fun h => rise_no (F := F) (n := n) k hlt h)
      have hyes := Lib.hid (fun (h : cmpF (idF F k) (idF F (k + 1)) < 0) => (show ∀ j, j < k + 1 → cmpF (idF F j) (idF F (j + 1)) < 0 from fun j hj => by
        rcases Nat.lt_or_ge j k with h1 | h1
        · exact he'.out j h1
        · obtain rfl : j = k := by omega
          exact h))
      clear q1 q2 he' hk
      generalize idF F (k + 1) = B at *
      generalize idF F k = A at *
      generalize cmpF A B = T at *
      have x1 : IntKind.i64.wrap ((k : Int) + 1) = (k : Int) + 1 := IntWalk.i64_in _ (by omega)
      have x2 : (0 : Int) ≤ (k : Int) + 1 := by omega
      have x3 : ((k : Int) + 1).toNat = k + 1 := by omega
      have x4 : (k : Int) + 1 < (n : Int) := by omega
      have x5 : k < n := by omega
      have i1 : Hid ((Try.prog.info? 58).map (·.size) = some (idV A).length) := Lib.hid (by rw [idV_length, l1.out]; kernel_rfl)
      have i2 : Hid ((Try.prog.info? 58).map (·.size) = some (idV B).length) := Lib.hid (by rw [idV_length, l2.out]; kernel_rfl)
      go_wp2
      refine wp_region_headN (C := fun w' => ∃ n, w' = wr.drewN n) 9 [] (by kernel_rfl) (by kernel_rfl) ⟨1, rfl⟩ ?_
      simp only [List.take_succ_cons, List.take_zero, List.drop_succ_cons, List.drop_zero]
      iterate 3 (refine head_walk (by rfl) (fun K hK => ?_); go_simp; refine hK _ ?_; clear hK K)
      refine head_step (.agg (u8s A)) (by rfl) (qa_load_mid 58 _ rfl b (o + k * 32) rfl A _ Try.underlying58 rfl i1.out (fun w' ⟨n, h⟩ => h ▸ range_drewN q1'.out n)) (by rfl) rfl (fun K hK => ?_)
      go_simp
      refine hK _ ?_
      clear hK K
      iterate 4 (refine head_walk (by rfl) (fun K hK => ?_); go_simp; refine hK _ ?_; clear hK K)
      refine head_step (.agg (u8s B)) (by rfl) (qa_load_mid 58 _ rfl b (o + (k + 1) * 32) rfl B _ Try.underlying58 rfl i2.out (fun w' ⟨n, h⟩ => h ▸ range_drewN q2'.out n)) (by rfl) rfl (fun K hK => ?_)
      go_simp
      refine hK _ ?_
      clear hK K
      refine head_nil ?_
      rintro w' ⟨nz, rfl⟩
      clear x1 x2 x3 x4
      have hbz := Lib.hid (((Draws.refl wr).drewN nz).below hb'.out)
      go_wp2_with (go_at_call 46; (with_reducible refine (hc.out _).mono ?_); rintro e w2 ⟨rfl, hb2⟩; have hB2 := Lib.hid (hbz.out.trans (hb2.mono hbz.out.size)); clear hb2)
      refine NoPanic.normal ?_
      by_cases hT : T < 0
      · have hh := Lib.hid (hyes.out hT)
        go_wp2
        go_roundw
        case rel => exact ⟨k + 1, .inr (by omega), by go_num, hB2.out, hh.out⟩
        case measure => simp [intOf]; omega
      · have hh := Lib.hid (hno.out (by omega))
        go_wp2
        go_ret
        exact ⟨ret_bool hh.out.symm, hB2.out⟩
    · have hh := Lib.hid (rise_yes (F := F) (n := n) (fun i hi => he'.out i (by rcases hk with h | h <;> omega)))
      have hk' : ¬ (k : Int) < (n : Int) - 1 := by omega
      go_wp2
      go_ret
      exact ⟨ret_bool hh.out.symm, hb'.out⟩
set_option maxRecDepth 100000 in
theorem rising_any (F : List Int) (n : Nat) (v : Value) (w : World) (hr : RdI w v n F) (hF : Bytes F) (hn : n ≤ 100000) :
    Calls Try.prog 23 #[v] w fun e w' => e = .returned (.bool (riseF F n)) ∧ Below w.heap.size w w' := by
  have hlen := Lib.hid hr.len
  obtain ⟨a, c, rfl⟩ := hr.slice
  have hr' := Lib.hid hr; have hF' := Lib.hid hF
  clear hr hF
  go_enter Try.func23, Try.ntmps23
  go_wp2
  go_loopw [3] (fun i wr => ∃ k : Nat, (k = 0 ∨ k + 1 ≤ n) ∧ i = .int .i64 ((k : Int) + 1) ∧ Below w.heap.size w wr ∧ ∀ j, j < k → cmpF (idF F j) (idF F (j + 1)) < 0) (fun i _ => n - (intOf i).toNat)
  case atStart => exact ⟨0, .inl rfl, rfl, Below.refl _ _, fun j hj => absurd hj (Nat.not_lt_zero _)⟩
  case round =>
    obtain ⟨k, hk, rfl, hb, he⟩ := hrel
    have he' := Lib.hid he; have hb' := Lib.hid hb
    clear he hb
    by_cases hlt : k + 1 < n
    · obtain ⟨b, o, rfl, hbw, hnc, q1, _⟩ := rdI_at hr'.out hb'.out k (by omega)
      obtain ⟨b2, o2, hab, _, _, q2, _⟩ := rdI_at hr'.out hb'.out (k + 1) hlt
      cases hab
      have q1' := Lib.hid q1; have q2' := Lib.hid q2
      have l1 := Lib.hid (idF_length F n k hlen.out (by omega))
      have l2 := Lib.hid (idF_length F n (k + 1) hlen.out hlt)
      have hc := Lib.hid (fun wi => rcmp_any (idF F k) (idF F (k + 1)) wi l1.out l2.out (idF_bytes F k hF'.out) (idF_bytes F (k + 1) hF'.out))
      have hno := Lib.hid (fun h => rise_no (F := F) (n := n) k hlt h)
      have hyes := Lib.hid (fun (h : cmpF (idF F k) (idF F (k + 1)) < 0) => (show ∀ j, j < k + 1 → cmpF (idF F j) (idF F (j + 1)) < 0 from fun j hj => by
        rcases Nat.lt_or_ge j k with h1 | h1
        · exact he'.out j h1
        · obtain rfl : j = k := by omega
          exact h))
      clear q1 q2 he' hk
      generalize idF F (k + 1) = B at *
      generalize idF F k = A at *
      generalize cmpF A B = T at *
      have x1 : IntKind.i64.wrap (k : Int) = (k : Int) := IntWalk.i64_in _ (by omega)
      have x2 : (0 : Int) ≤ (k : Int) + 1 := by omega
      have x3 : ((k : Int) + 1).toNat = k + 1 := by omega
      have x4 : (k : Int) + 1 < (n : Int) := by omega
      have x5 : k < n := by omega
      have i1 : Hid ((Try.prog.info? 58).map (·.size) = some (idV A).length) := Lib.hid (by rw [idV_length, l1.out]; kernel_rfl)
      have i2 : Hid ((Try.prog.info? 58).map (·.size) = some (idV B).length) := Lib.hid (by rw [idV_length, l2.out]; kernel_rfl)
      go_wp2
      refine wp_region_headN (C := fun w' => ∃ n, w' = wr.drewN n) 9 [] (by kernel_rfl) (by kernel_rfl) ⟨1, rfl⟩ ?_
      simp only [List.take_succ_cons, List.take_zero, List.drop_succ_cons, List.drop_zero]
      iterate 4 (refine head_walk (by rfl) (fun K hK => ?_); go_simp; refine hK _ ?_; clear hK K)
      refine head_step (.agg (u8s A)) (by rfl) (qa_load_mid 58 _ rfl b (o + k * 32) rfl A _ Try.underlying58 rfl i1.out (fun w' ⟨n, h⟩ => h ▸ range_drewN q1'.out n)) (by rfl) rfl (fun K hK => ?_)
      go_simp
      refine hK _ ?_
      clear hK K
      iterate 3 (refine head_walk (by rfl) (fun K hK => ?_); go_simp; refine hK _ ?_; clear hK K)
      refine head_step (.agg (u8s B)) (by rfl) (qa_load_mid 58 _ rfl b (o + (k + 1) * 32) rfl B _ Try.underlying58 rfl i2.out (fun w' ⟨n, h⟩ => h ▸ range_drewN q2'.out n)) (by rfl) rfl (fun K hK => ?_)
      go_simp
      refine hK _ ?_
      clear hK K
      refine head_nil ?_
      rintro w' ⟨nz, rfl⟩
      clear x1 x2 x3 x4
      have hbz := Lib.hid (((Draws.refl wr).drewN nz).below hb'.out)
      go_wp2_with (go_at_call 38; (with_reducible refine (hc.out _).mono ?_); rintro e w2 ⟨rfl, hb2⟩; have hB2 := Lib.hid (hbz.out.trans (hb2.mono hbz.out.size)); clear hb2)
      refine NoPanic.normal ?_
      by_cases hT : T < 0
      · have hh := Lib.hid (hyes.out hT)
        go_wp2
        go_roundw
        case rel => exact ⟨k + 1, .inr (by omega), by go_num, hB2.out, hh.out⟩
        case measure => simp [intOf]; omega
      · have hh := Lib.hid (hno.out (by omega))
        go_wp2
        go_ret
        exact ⟨ret_bool hh.out.symm, hB2.out⟩
    · have hh := Lib.hid (rise_yes (F := F) (n := n) (fun i hi => he'.out i (by rcases hk with h | h <;> omega)))
      have hk' : ¬ (k : Int) + 1 < (n : Int) := by omega
      go_wp2
      go_ret
      exact ⟨ret_bool hh.out.symm, hb'.out⟩
theorem ids_ext {F G : List Int} {n : Nat} (hF : F.length = 32 * n) (hG : G.length = 32 * n) (h : ∀ i, i < n → idF F i = idF G i) : F = G := by
  refine ith_ext (by rw [hF, hG]) (fun i hi => ?_)
  have h1 := h (i / 32) (by omega)
  have h2 := ith_idF F (i / 32) (i % 32) (Nat.mod_lt _ (by decide))
  have h3 := ith_idF G (i / 32) (i % 32) (Nat.mod_lt _ (by decide))
  rw [h1, h3] at h2
  rw [show 32 * (i / 32) + i % 32 = i by omega] at h2
  exact h2.symm
theorem sameF_ids {F G : List Int} (k : Nat) (h : idF F k ≠ idF G k) : sameF F G = false := by
  simp only [sameF, decide_eq_false_iff_not]; intro e; exact h (by rw [e])
theorem run_neqArr {P : Program} (w : World) (t elem n : Nat) (ht : P.underlying t = some (.array n elem)) (he : P.underlying elem = some (.int .u8)) (hs : (P.info? elem).map (·.size) = some 1)
    (a b : List Int) (ha : a.length = n) (hb : b.length = n) :
    (binOp .neq t (.agg (u8s a)) (.agg (u8s b))).run P w = .ok (.bool (!decide (a = b))) w := by
  rw [run_neq_struct, run_equalArr w 9998 t elem n ht he hs a b ha hb]
  rfl
set_option maxRecDepth 100000 in
theorem sameIDs_any (n m : Nat) (F G : List Int) (va vb : Value) (w : World) (hn : n ≤ 100000) (h1 : RdI w va n F) (h2 : RdI w vb m G) :
    Calls Try.prog 24 #[va, vb] w fun e w' => e = .returned (.bool (sameF F G)) ∧ Draws w w' := by
  have lF := h1.len
  have lG := h2.len
  obtain ⟨a1, c1, rfl⟩ := h1.slice
  obtain ⟨a2, c2, rfl⟩ := h2.slice
  by_cases hlen : n = m
  · subst hlen
    have h1' := Lib.hid h1; have h2' := Lib.hid h2; have lF' := Lib.hid lF; have lG' := Lib.hid lG
    clear h1 h2 lF lG
    go_enter Try.func24, Try.ntmps24
    go_wp2
    go_loopw [5] (fun i wr => ∃ k : Nat, k ≤ n ∧ i = .int .i64 k ∧ Draws w wr ∧ ∀ j, j < k → idF F j = idF G j) (fun i _ => n - (intOf i).toNat)
    case atStart => exact ⟨0, Nat.zero_le _, rfl, Draws.refl _, fun j hj => absurd hj (Nat.not_lt_zero _)⟩
    case round =>
      obtain ⟨k, hk, rfl, hd, he⟩ := hrel
      have he' := Lib.hid he; clear he
      by_cases hlt : k < n
      · obtain ⟨b1, o1, rfl, _, _, q1, _⟩ := rdI_at h1'.out (hd.below (Below.refl _ _)) k hlt
        obtain ⟨b2, o2, rfl, _, _, q2, _⟩ := rdI_at h2'.out (hd.below (Below.refl _ _)) k hlt
        have q1' := Lib.hid q1; have q2' := Lib.hid q2
        have l1 := Lib.hid (idF_length F n k lF'.out hlt)
        have l2 := Lib.hid (idF_length G n k lG'.out hlt)
        have hno := Lib.hid (fun h => sameF_ids (F := F) (G := G) k h)
        have hyes := Lib.hid (fun (h : idF F k = idF G k) => (show ∀ j, j < k + 1 → idF F j = idF G j from fun j hj => by
          rcases Nat.lt_or_ge j k with h1 | h1
          · exact he'.out j h1
          · obtain rfl : j = k := by omega
            exact h))
        clear q1 q2 he'
        generalize idF G k = B at *
        generalize idF F k = A at *
        have i1 : Hid ((Try.prog.info? 58).map (·.size) = some (idV A).length) := Lib.hid (by rw [idV_length, l1.out]; kernel_rfl)
        have i2 : Hid ((Try.prog.info? 58).map (·.size) = some (idV B).length) := Lib.hid (by rw [idV_length, l2.out]; kernel_rfl)
        have hq := fun (wz : World) => run_neqArr (P := Try.prog) wz 58 5 32 Try.underlying58 Try.underlying5 (by kernel_rfl) A B l1.out l2.out
        go_wp2
        refine wp_region_headN (C := fun w' => ∃ n, w' = wr.drewN n) 8 [] (by kernel_rfl) (by kernel_rfl) ⟨1, rfl⟩ ?_
        simp only [List.take_succ_cons, List.take_zero, List.drop_succ_cons, List.drop_zero]
        iterate 3 (refine head_walk (by rfl) (fun K hK => ?_); go_simp; refine hK _ ?_; clear hK K)
        refine head_step (.agg (u8s A)) (by rfl) (qa_load_mid 58 _ rfl b1 (o1 + k * 32) rfl A _ Try.underlying58 rfl i1.out (fun w' ⟨n, h⟩ => h ▸ range_drewN q1'.out n)) (by rfl) rfl (fun K hK => ?_)
        go_simp
        refine hK _ ?_
        clear hK K
        iterate 3 (refine head_walk (by rfl) (fun K hK => ?_); go_simp; refine hK _ ?_; clear hK K)
        refine head_step (.agg (u8s B)) (by rfl) (qa_load_mid 58 _ rfl b2 (o2 + k * 32) rfl B _ Try.underlying58 rfl i2.out (fun w' ⟨n, h⟩ => h ▸ range_drewN q2'.out n)) (by rfl) rfl (fun K hK => ?_)
        go_simp
        refine hK _ ?_
        clear hK K
        refine head_nil ?_
        rintro w' ⟨nz, rfl⟩
        go_wp2
        refine NoPanic.normal ?_
        by_cases hT : A = B
        · have hh := Lib.hid (hyes.out hT)
          rw [decide_eq_true hT]
          clear hT hyes hno hq
          go_wp2
          go_roundw
          case rel => exact ⟨k + 1, by omega, by go_num, hd.drewN _, hh.out⟩
          case measure => simp [intOf]; omega
        · have hh := Lib.hid (hno.out hT)
          rw [decide_eq_false hT]
          clear hT hyes hno hq
          go_wp2
          go_ret
          exact ⟨ret_bool hh.out.symm, hd.drewN _⟩
      · have hkn : k = n := by omega
        have hh := Lib.hid (show sameF F G = true by simp only [sameF, decide_eq_true_eq]; exact ids_ext lF'.out lG'.out (fun i hi => he'.out i (by omega)))
        clear hkn
        go_wp2
        go_ret
        exact ⟨ret_bool hh.out.symm, hd⟩
  · have hs := Lib.hid (show sameF F G = false by simp only [sameF, decide_eq_false_iff_not]; intro e; rw [e] at lF; omega)
    have hbne : ((n : Int) != (m : Int)) = true := by simp; omega
    clear h1 h2 hlen lF lG
    go_enter Try.func24, Try.ntmps24
    go_wp2
    go_ret
    exact ⟨ret_bool hs.out.symm, Draws.refl _⟩
end Go.Proofs.Ytegffpjhdodldaa

/- Texts that the row stands on, part 1. -/
import Derived.Test.YtfaojjleapenaabRNamesFq00
import Derived.Deep.MidRow
namespace Go
namespace Ytfaojjleapenaab
open RowKit
def idF (F : List Int) (i : Nat) : List Int := (F.drop (32 * i)).take 32
theorem idF_length (F : List Int) (n i : Nat) (hF : F.length = 32 * n) (hi : i < n) : (idF F i).length = 32 := by
  rw [idF, List.length_take, List.length_drop]; omega
theorem ith_idF (F : List Int) (i k : Nat) (hk : k < 32) : ith (idF F i) k = ith F (32 * i + k) := by
  rw [idF, ith_take _ _ _ hk, ith_drop]
theorem idF_bytes (F : List Int) (i : Nat) (h : Bytes F) : Bytes (idF F i) := fun k => by
  rcases Nat.lt_or_ge k 32 with hk | hk
  · rw [ith_idF _ _ _ hk]; exact h _
  · rw [ith_over _ _ (by rw [idF, List.length_take]; omega)]; omega
theorem take_ids (F : List Int) (i : Nat) : F.take (32 * i) ++ idF F i = F.take (32 * (i + 1)) := by
  rw [idF, Nat.mul_add, Nat.mul_one, List.take_add]
/-- The slice value 'v' reads as' 'n' ids whose bytes, one behind the other, are 'F'. -/
def RdI (w : World) (v : Value) (n : Nat) (F : List Int) : Prop :=
  (∃ a c, v = .slice a 0 c ∧ (a = none → c = 0) ∧ n = 0 ∧ F = []) ∨ ∃ b o c, v = .slice (some ⟨b, o, none⟩) n c ∧ n ≤ c ∧ c ≤ maxLen ∧ b < w.heap.size ∧ F.length = 32 * n ∧ ∀ i, i < F.length → w.cell? ⟨b, o + i, none⟩ = some (.int .u8 (ith F i))
theorem RdI.mono {w w' : World} {v : Value} {n : Nat} {F : List Int} (h : RdI w v n F) (hb : Below w.heap.size w w') : RdI w' v n F := by
  rcases h with h | ⟨b, o, c, hv, h1, h2, h3, h4, h5⟩
  · exact .inl h
  · exact .inr ⟨b, o, c, hv, h1, h2, Nat.lt_of_lt_of_le h3 hb.size, h4, fun i hi => by rw [hb.cell (p := (⟨b, o + i, none⟩ : Addr)) h3]; exact h5 i hi⟩
theorem RdI.slice {w : World} {v : Value} {n : Nat} {F : List Int} (h : RdI w v n F) : ∃ a c, v = .slice a n c := by
  rcases h with ⟨a, c, rfl, _, rfl, _⟩ | ⟨b, o, c, hv, _⟩
  · exact ⟨a, c, rfl⟩
  · exact ⟨_, c, hv⟩
theorem RdI.len {w : World} {v : Value} {n : Nat} {F : List Int} (h : RdI w v n F) : F.length = 32 * n := by
  rcases h with ⟨a, c, _, _, rfl, rfl⟩ | ⟨b, o, c, _, _, _, _, h, _⟩
  · rfl
  · exact h
def idV (l : List Int) : List Value := l.map (Value.int .u8)
theorem idV_arr (l : List Int) : (idV l).toArray = u8s l := rfl
theorem idV_length (l : List Int) : (idV l).length = l.length := by simp [idV]
theorem rdI_at {w wr : World} {a : Option Addr} {n c : Nat} {F : List Int} (h : RdI w (.slice a n c) n F) (hb : Below w.heap.size w wr) (i : Nat) (hi : i < n) :
    ∃ b o, a = some ⟨b, o, none⟩ ∧ b < w.heap.size ∧ n ≤ c ∧ wr.rangeAt b (o + i * 32) (idV (idF F i)) ∧ RdB wr (.slice (some ⟨b, o + i * 32, none⟩) 32 32) (idF F i) := by
  rcases h with ⟨a', c', _, _, rfl, _⟩ | ⟨b, o, c', h1, h2, h3, h4, h5, h6⟩
  · omega
  · cases h1
    have hl := idF_length F n i h5 hi
    have hcell : ∀ k, k < 32 → wr.cell? ⟨b, o + i * 32 + k, none⟩ = some (.int .u8 (ith (idF F i) k)) := fun k hk => by
      rw [hb.cell (p := (⟨b, o + i * 32 + k, none⟩ : Addr)) h4, ith_idF _ _ _ hk, show o + i * 32 + k = o + (32 * i + k) by omega]
      exact h6 _ (by omega)
    refine ⟨b, o, rfl, h4, h2, fun j v hv => ?_, .inr ⟨b, o + i * 32, 32, by rw [hl], by omega, by unfold maxLen; omega, Nat.lt_of_lt_of_le h4 hb.size, fun k hk => hcell k (by omega)⟩⟩
    have hj : j < 32 := by
      have := (List.getElem?_eq_some_iff.1 hv).1
      rw [idV_length, hl] at this; exact this
    rw [hcell j hj, ← hv]
    simp [idV, ith, hl, hj]
/-- Do they increase? -/
def riseF (F : List Int) (n : Nat) : Bool := (List.range (n - 1)).all fun i => decide (cmpF (idF F i) (idF F (i + 1)) < 0)
theorem rise_yes {F : List Int} {n : Nat} (h : ∀ i, i + 1 < n → cmpF (idF F i) (idF F (i + 1)) < 0) : riseF F n = true := by
  unfold riseF
  rw [List.all_eq_true]
  intro i hi
  have := List.mem_range.1 hi
  exact decide_eq_true (h i (by omega))
theorem rise_no {F : List Int} {n : Nat} (i : Nat) (hi : i + 1 < n) (h : ¬ cmpF (idF F i) (idF F (i + 1)) < 0) : riseF F n = false := by
  cases hr : riseF F n with
  | false => rfl
  | true =>
    unfold riseF at hr
    rw [List.all_eq_true] at hr
    have := hr i (List.mem_range.2 (by omega))
    simp only [decide_eq_true_eq] at this
    exact absurd this h
theorem range_drewN {w : World} {b o : Nat} {cs : List Value} (h : w.rangeAt b o cs) (n : Nat) : (w.drewN n).rangeAt b o cs := fun j v hv => h j v hv
end Ytfaojjleapenaab
end Go
namespace Go.Proofs.Ytfaojjleapenaab
open Go.RowKit Go.Ytfaojjleapenaab
set_option linter.unusedVariables false
section
variable {P : Program}
theorem qa_load_mid {C : World → Prop} {o : Oper} {a : Act} (ty : TypeId) (x : Operand) (ho : o.op = .load ty x) (b off : Nat) (hx : a.eval x = .pointer (some ⟨b, off, none⟩)) (l : List Int) (d : TypeDesc)
    (hu : P.underlying ty = some d) (hd : d.isRow = true) (hi : (P.info? ty).map (·.size) = some (idV l).length) (hS : ∀ w, C w → w.rangeAt b off (idV l)) : ∀ w, C w → o.quietAt P a C w (.agg (u8s l)) := fun w hw => qa_ok (by
  unfold execOp
  simp only [ho, hx, Instr.loadAt, Instr.sureAddr, Sem.run_bind, Sem.run_pure, Result.andThen_ok, run_loadVar_mid w b off ty (idV l) d (hS w hw) hu hd hi]
  rfl)
end
set_option maxRecDepth 100000 in
theorem increase_any (F : List Int) (n : Nat) (v : Value) (w : World) (hr : RdI w v n F) (hF : Bytes F) (hn : n ≤ 100000) :
    Calls Try.prog 41 #[v] w fun e w' => e = .returned (.bool (riseF F n)) ∧ Below w.heap.size w w' := by
  have hlen := Lib.hid hr.len
  obtain ⟨a, c, rfl⟩ := hr.slice
  have hr' := Lib.hid hr; have hF' := Lib.hid hF
  clear hr hF
  go_enter Try.func41, Try.ntmps41
  go_wp2
  go_loopw [7] (fun i wr => ∃ k : Nat, (k = 0 ∨ k + 1 ≤ n) ∧ i = .int .i64 k ∧ Below w.heap.size w wr ∧ ∀ j, j < k → cmpF (idF F j) (idF F (j + 1)) < 0) (fun i _ => n - (intOf i).toNat)
  case atStart => exact ⟨0, .inl rfl, rfl, Below.refl _ _, fun j hj => absurd hj (Nat.not_lt_zero _)⟩
  case round =>
    obtain ⟨k, hk, rfl, hb, he⟩ := hrel
    have he' := Lib.hid he; have hb' := Lib.hid hb
    clear he hb
    by_cases hlt : k + 1 < n
    · obtain ⟨b, o, rfl, hbw, hnc, q1, _⟩ := rdI_at hr'.out hb'.out k (by omega)
      obtain ⟨b2, o2, hab, _, _, q2, _⟩ := rdI_at hr'.out hb'.out (k + 1) hlt
      cases hab
      have q1' := Lib.hid q1; have q2' := Lib.hid q2
      have l1 := Lib.hid (idF_length F n k hlen.out (by omega))
      have l2 := Lib.hid (idF_length F n (k + 1) hlen.out hlt)
      have hc := Lib.hid (fun wi => cmp_any (idF F k) (idF F (k + 1)) wi l1.out l2.out (idF_bytes F k hF'.out) (idF_bytes F (k + 1) hF'.out))
      have hno := Lib.hid (fun h => rise_no (F := F) (n := n) k hlt h)
      have hyes := Lib.hid (fun (h : cmpF (idF F k) (idF F (k + 1)) < 0) => (show ∀ j, j < k + 1 → cmpF (idF F j) (idF F (j + 1)) < 0 from fun j hj => by
        rcases Nat.lt_or_ge j k with h1 | h1
        · exact he'.out j h1
        · obtain rfl : j = k := by omega
          exact h))
      clear q1 q2 he' hk
      generalize idF F (k + 1) = B at *
      generalize idF F k = A at *
      generalize cmpF A B = T at *
      have x1 : IntKind.i64.wrap ((k : Int) + 1) = (k : Int) + 1 := IntWalk.i64_in _ (by omega)
      have x2 : (0 : Int) ≤ (k : Int) + 1 := by omega
      have x3 : ((k : Int) + 1).toNat = k + 1 := by omega
      have x4 : (k : Int) + 1 < (n : Int) := by omega
      have x5 : k < n := by omega
      have i1 : Hid ((Try.prog.info? 47).map (·.size) = some (idV A).length) := Lib.hid (by rw [idV_length, l1.out]; kernel_rfl)
      have i2 : Hid ((Try.prog.info? 47).map (·.size) = some (idV B).length) := Lib.hid (by rw [idV_length, l2.out]; kernel_rfl)
      go_wp2
      refine wp_region_headN (C := fun w' => ∃ n, w' = wr.drewN n) 9 [] (by kernel_rfl) (by kernel_rfl) ⟨1, rfl⟩ ?_
      simp only [List.take_succ_cons, List.take_zero, List.drop_succ_cons, List.drop_zero]
      iterate 3 (refine head_walk (by rfl) (fun K hK => ?_); go_simp; refine hK _ ?_; clear hK K)
      refine head_step (.agg (u8s A)) (by rfl) (qa_load_mid 47 _ rfl b (o + k * 32) rfl A _ Try.underlying47 rfl i1.out (fun w' ⟨n, h⟩ => h ▸ range_drewN q1'.out n)) (by rfl) rfl (fun K hK => ?_)
      go_simp
      refine hK _ ?_
      clear hK K
      iterate 4 (refine head_walk (by rfl) (fun K hK => ?_); go_simp; refine hK _ ?_; clear hK K)
      refine head_step (.agg (u8s B)) (by rfl) (qa_load_mid 47 _ rfl b (o + (k + 1) * 32) rfl B _ Try.underlying47 rfl i2.out (fun w' ⟨n, h⟩ => h ▸ range_drewN q2'.out n)) (by rfl) rfl (fun K hK => ?_)
      go_simp
      refine hK _ ?_
      clear hK K
      refine head_nil ?_
      rintro w' ⟨nz, rfl⟩
      clear x1 x2 x3 x4
      have hbz := Lib.hid (((Draws.refl wr).drewN nz).below hb'.out)
      go_wp2_with (go_at_call 36; (with_reducible refine (hc.out _).mono ?_); rintro e w2 ⟨rfl, hb2⟩; have hB2 := Lib.hid (hbz.out.trans (hb2.mono hbz.out.size)); clear hb2)
      refine NoPanic.normal ?_
      by_cases hT : T < 0
      · have hh := Lib.hid (hyes.out hT)
        go_wp2
        go_roundw
        case rel => exact ⟨k + 1, .inr (by omega), by go_num, hB2.out, hh.out⟩
        case measure => simp [intOf]; omega
      · have hh := Lib.hid (hno.out (by omega))
        go_wp2
        go_ret
        exact ⟨ret_bool hh.out.symm, hB2.out⟩
    · have hh := Lib.hid (rise_yes (F := F) (n := n) (fun i hi => he'.out i (by rcases hk with h | h <;> omega)))
      have hk' : ¬ (k : Int) < (n : Int) - 1 := by omega
      go_wp2
      go_ret
      exact ⟨ret_bool hh.out.symm, hb'.out⟩
theorem ids_ext {F G : List Int} {n : Nat} (hF : F.length = 32 * n) (hG : G.length = 32 * n) (h : ∀ i, i < n → idF F i = idF G i) : F = G := by
  refine ith_ext (by rw [hF, hG]) (fun i hi => ?_)
  have h1 := h (i / 32) (by omega)
  have h2 := ith_idF F (i / 32) (i % 32) (Nat.mod_lt _ (by decide))
  have h3 := ith_idF G (i / 32) (i % 32) (Nat.mod_lt _ (by decide))
  rw [h1, h3] at h2
  rw [show 32 * (i / 32) + i % 32 = i by omega] at h2
  exact h2.symm
theorem sameF_ids {F G : List Int} (k : Nat) (h : idF F k ≠ idF G k) : sameF F G = false := by
  simp only [sameF, decide_eq_false_iff_not]; intro e; exact h (by rw [e])
theorem run_neqArr {P : Program} (w : World) (t elem n : Nat) (ht : P.underlying t = some (.array n elem)) (he : P.underlying elem = some (.int .u8)) (hs : (P.info? elem).map (·.size) = some 1)
    (a b : List Int) (ha : a.length = n) (hb : b.length = n) :
    (binOp .neq t (.agg (u8s a)) (.agg (u8s b))).run P w = .ok (.bool (!decide (a = b))) w := by
  rw [run_neq_struct, run_equalArr w 9998 t elem n ht he hs a b ha hb]
  rfl
set_option maxRecDepth 100000 in
theorem sameIDs_any (n m : Nat) (F G : List Int) (va vb : Value) (w : World) (hn : n ≤ 100000) (h1 : RdI w va n F) (h2 : RdI w vb m G) :
    Calls Try.prog 27 #[va, vb] w fun e w' => e = .returned (.bool (sameF F G)) ∧ Draws w w' := by
  have lF := h1.len
  have lG := h2.len
  obtain ⟨a1, c1, rfl⟩ := h1.slice
  obtain ⟨a2, c2, rfl⟩ := h2.slice
  by_cases hlen : n = m
  · subst hlen
    have h1' := Lib.hid h1; have h2' := Lib.hid h2; have lF' := Lib.hid lF; have lG' := Lib.hid lG
    clear h1 h2 lF lG
    go_enter Try.func27, Try.ntmps27
    go_wp2
    go_loopw [5] (fun i wr => ∃ k : Nat, k ≤ n ∧ i = .int .i64 k ∧ Draws w wr ∧ ∀ j, j < k → idF F j = idF G j) (fun i _ => n - (intOf i).toNat)
    case atStart => exact ⟨0, Nat.zero_le _, rfl, Draws.refl _, fun j hj => absurd hj (Nat.not_lt_zero _)⟩
    case round =>
      obtain ⟨k, hk, rfl, hd, he⟩ := hrel
      have he' := Lib.hid he; clear he
      by_cases hlt : k < n
      · obtain ⟨b1, o1, rfl, _, _, q1, _⟩ := rdI_at h1'.out (hd.below (Below.refl _ _)) k hlt
        obtain ⟨b2, o2, rfl, _, _, q2, _⟩ := rdI_at h2'.out (hd.below (Below.refl _ _)) k hlt
        have q1' := Lib.hid q1; have q2' := Lib.hid q2
        have l1 := Lib.hid (idF_length F n k lF'.out hlt)
        have l2 := Lib.hid (idF_length G n k lG'.out hlt)
        have hno := Lib.hid (fun h => sameF_ids (F := F) (G := G) k h)
        have hyes := Lib.hid (fun (h : idF F k = idF G k) => (show ∀ j, j < k + 1 → idF F j = idF G j from fun j hj => by
          rcases Nat.lt_or_ge j k with h1 | h1
          · exact he'.out j h1
          · obtain rfl : j = k := by omega
            exact h))
        clear q1 q2 he'
        generalize idF G k = B at *
        generalize idF F k = A at *
        have i1 : Hid ((Try.prog.info? 47).map (·.size) = some (idV A).length) := Lib.hid (by rw [idV_length, l1.out]; kernel_rfl)
        have i2 : Hid ((Try.prog.info? 47).map (·.size) = some (idV B).length) := Lib.hid (by rw [idV_length, l2.out]; kernel_rfl)
        have hq := fun (wz : World) => run_neqArr (P := Try.prog) wz 47 5 32 Try.underlying47 Try.underlying5 (by kernel_rfl) A B l1.out l2.out
        go_wp2
        refine wp_region_headN (C := fun w' => ∃ n, w' = wr.drewN n) 8 [] (by kernel_rfl) (by kernel_rfl) ⟨1, rfl⟩ ?_
        simp only [List.take_succ_cons, List.take_zero, List.drop_succ_cons, List.drop_zero]
        iterate 3 (refine head_walk (by rfl) (fun K hK => ?_); go_simp; refine hK _ ?_; clear hK K)
        refine head_step (.agg (u8s A)) (by rfl) (qa_load_mid 47 _ rfl b1 (o1 + k * 32) rfl A _ Try.underlying47 rfl i1.out (fun w' ⟨n, h⟩ => h ▸ range_drewN q1'.out n)) (by rfl) rfl (fun K hK => ?_)
        go_simp
        refine hK _ ?_
        clear hK K
        iterate 3 (refine head_walk (by rfl) (fun K hK => ?_); go_simp; refine hK _ ?_; clear hK K)
        refine head_step (.agg (u8s B)) (by rfl) (qa_load_mid 47 _ rfl b2 (o2 + k * 32) rfl B _ Try.underlying47 rfl i2.out (fun w' ⟨n, h⟩ => h ▸ range_drewN q2'.out n)) (by rfl) rfl (fun K hK => ?_)
        go_simp
        refine hK _ ?_
        clear hK K
        refine head_nil ?_
        rintro w' ⟨nz, rfl⟩
        go_wp2
        refine NoPanic.normal ?_
        by_cases hT : A = B
        · have hh := Lib.hid (hyes.out hT)
          rw [decide_eq_true hT]
          clear hT hyes hno hq
          go_wp2
          go_roundw
          case rel => exact ⟨k + 1, by omega, by go_num, hd.drewN _, hh.out⟩
          case measure => simp [intOf]; omega
        · have hh := Lib.hid (hno.out hT)
          rw [decide_eq_false hT]
          clear hT hyes hno hq
          go_wp2
          go_ret
          exact ⟨ret_bool hh.out.symm, hd.drewN _⟩
      · have hkn : k = n := by omega
        have hh := Lib.hid (show sameF F G = true by simp only [sameF, decide_eq_true_eq]; exact ids_ext lF'.out lG'.out (fun i hi => he'.out i (by omega)))
        clear hkn
        go_wp2
        go_ret
        exact ⟨ret_bool hh.out.symm, hd⟩
  · have hs := Lib.hid (show sameF F G = false by simp only [sameF, decide_eq_false_iff_not]; intro e; rw [e] at lF; omega)
    have hbne : ((n : Int) != (m : Int)) = true := by simp; omega
    clear h1 h2 hlen lF lG
    go_enter Try.func27, Try.ntmps27
    go_wp2
    go_ret
    exact ⟨ret_bool hs.out.symm, Draws.refl _⟩
end Go.Proofs.Ytfaojjleapenaab
namespace Go
namespace Ytfaojjleapenaab
open RowKit
/-- The slice value 'v' is the call's own (blocks from 'base' on), and reads as' 'n' ids with the bytes 'F'. -/
def OwnI (base : Nat) (E : TypeId) (w : World) (v : Value) (n : Nat) (F : List Int) : Prop := w.ownsRow base E 32 v n (u8v F)
theorem OwnI.nil (w : World) (base : Nat) (E : TypeId) : OwnI base E w (.slice none 0 0) 0 [] := World.ownsRow_nil w base E 32
theorem OwnI.len {base : Nat} {E : TypeId} {w : World} {v : Value} {n : Nat} {F : List Int} (h : OwnI base E w v n F) : F.length = 32 * n := by
  have := h.1
  rw [u8v_length] at this; omega
theorem OwnI.rd {base : Nat} {E : TypeId} {w : World} {v : Value} {n : Nat} {F : List Int} (h : OwnI base E w v n F) : RdI w v n F := by
  have hl := h.len
  rcases h.2 with ⟨rfl, h0⟩ | ⟨g, cap, cur, rfl, hb, hg, hn, hm, hs, ht⟩
  · subst h0
    exact .inl ⟨none, 0, rfl, fun _ => rfl, rfl, List.eq_nil_of_length_eq_zero (by omega)⟩
  · refine .inr ⟨g, 0, cap, rfl, hn, hm, (Array.getElem?_eq_some_iff.1 hg).1, hl, fun i hi => ?_⟩
    have hcell := World.ownsRow.cells (g := g) h rfl i _ (u8v_get F i hi)
    rw [addr_add] at hcell
    exact hcell
theorem OwnI.kept {base : Nat} {E : TypeId} {w w' : World} {v : Value} {n : Nat} {F : List Int} (h : OwnI base E w v n F) (hb : Below w.heap.size w w') : OwnI base E w' v n F := by
  refine ⟨h.1, ?_⟩
  rcases h.2 with hn | ⟨g, cap, cur, rfl, hbg, hg, rest⟩
  · exact .inl hn
  · exact .inr ⟨g, cap, cur, rfl, hbg, (hb.block g (Array.getElem?_eq_some_iff.1 hg).1).trans hg, rest⟩
theorem OwnI.below {base : Nat} {E : TypeId} {w w' : World} {v : Value} {n : Nat} {F : List Int} (h : OwnI base E w v n F) (hg : w.grownBy w' v.ownBlock) (hb : base ≤ w.heap.size) : Below base w w' :=
  Below.grown (Below.refl base w) hg hb (fun k hk => (World.ownsRow.lt h k hk).1)
theorem OwnI.mono {base B : Nat} {E : TypeId} {w : World} {v : Value} {n : Nat} {F : List Int} (h : OwnI base E w v n F) (hB : B ≤ base) : OwnI B E w v n F := by
  refine ⟨h.1, ?_⟩
  rcases h.2 with hn | ⟨g, cap, cur, rfl, hbg, rest⟩
  · exact .inl hn
  · exact .inr ⟨g, cap, cur, rfl, Nat.le_trans hB hbg, rest⟩
section
variable {P : Program}
theorem appendI {ops : Array Oper} {rest : List Oper} {o : Oper} {a : Act} {w : World} {Q : Exit → Act → World → Prop} (hgd : o.guard = none) (s x : Operand) (t : TypeId)
    (ho : o.op = .call { callee := .builtin .append, args := #[s, x], argTypes := #[t, t] })
    (base : Nat) (e : TypeId) (ht : P.underlying t = some (.slice e)) (hinfo : (P.info? e).map (fun i => (i.zero, i.size, i.bytes)) = some (some (.agg (u8s (zerosB 32))), 32, 32))
    (v : Value) (hs : a.eval s = v) (n : Nat) (F : List Int) (hown : OwnI base e w v n F) (g c : Nat) (hx : a.eval x = .slice (some ⟨g, 0, none⟩) 1 c) (A : List Int) (hA : A.length = 32) (E : TypeId) (hrow : w.heap[g]? = some (.cells (u8s A) E (0, 0))) (hlen : n ≤ 1000000) (hbase : base ≤ w.heap.size)
    (h : ∀ v' w', OwnI base e w' v' (n + 1) (F ++ A) → w.grownBy w' v.ownBlock → Stop (wpList P ops Q rest (a.put o.dst v') w')) : wpList P ops Q (o :: rest) a w := by
  refine wpList_plain hgd fun K hK => ?_
  obtain ⟨i, hi, hz, hsz, hb⟩ := info_parts hinfo
  obtain ⟨v', w', hrun, h2, h3, _⟩ := run_append_own (P := P) w base t o.type e i (.agg (u8s (zerosB 32))) 32 32 ht hi hz hsz hb (by simp [Value.cells, u8s_size, zerosB_length]) (by omega) v n (u8v F) hown ⟨g, 0, none⟩ 1 c (u8v A)
    (by rw [u8v_length, hA]) (fun j u hu => by
      have hj : j < A.length := by
        have := (List.getElem?_eq_some_iff.1 hu).1
        rw [u8v_length] at this; exact this
      rw [u8v_get A j hj] at hu
      rw [addr_add, Nat.zero_add, cell_of_row _ _ _ _ _ _ hrow, u8s_get _ _ hj]; exact hu) (u8v_one A) (by unfold maxLen; omega) (by omega) hbase
  unfold Oper.wp execOp
  simp only [ho, resolve, invoke, builtin, Sem.run_bind, Sem.run_pure, Result.andThen_ok, List.map_toArray, List.map_cons, List.map_nil, hs, hx, hrun]
  rw [← u8v_append] at h2
  exact hK _ _ (h v' w' h2 h3).out
end
end Ytfaojjleapenaab
end Go
namespace Go.Proofs.Ytfaojjleapenaab
open Go.RowKit Go.Ytfaojjleapenaab
set_option linter.unusedVariables false
theorem storeNewW {P : Program} {ops : Array Oper} {rest : List Oper} {o : Oper} {a : Act} {Q : Exit → Act → World → Prop} {old : Array Value} (w1 : World) (hgd : o.guard = none) (ty : TypeId) (x y : Operand) (ho : o.op = .store ty x y)
    (cells : Array Value) (t : TypeId) (hx : a.eval x = .pointer (some ⟨w1.heap.size, 0, none⟩)) (hy : a.eval y = .agg cells)
    (hi : (P.info? ty).map (·.size) = some cells.size) (hold : old.size = cells.size) (h1 : cells.all (·.oneCell') = true)
    (h : ∀ wx, wx.heap[w1.heap.size]? = some (.cells cells t (0, 0)) → Below w1.heap.size w1 wx → wpList P ops Q rest (a.put o.dst undef) wx) :
    wpList P ops Q (o :: rest) a (w1.alloc (.cells old t)) := by
  have hg := heap_alloc_new w1 (.cells old t)
  refine wpList_store_row hgd ty x y ho w1.heap.size cells hx hy t old hg hi hold h1 (h _ (setRow_heap _ _ _ _ _ _ hg) ?_)
  exact below_setRow' ((Below.refl _ _).alloc (Nat.le_refl _) _) (Nat.le_refl _) _
/-- The bytes of a list, the first k ids of which are written. -/
def listP (F : List Int) (n k : Nat) : List Int := numB n ++ (F.take (32 * k) ++ zerosB (32 * (n - k)))
theorem listP_length (F : List Int) (n k : Nat) (hF : F.length = 32 * n) (hk : k ≤ n) : (listP F n k).length = numL n + 32 * n := by
  unfold listP
  rw [List.length_append, List.length_append, numB_length, List.length_take, zerosB_length]; omega
theorem listP_step (F : List Int) (n k : Nat) (hF : F.length = 32 * n) (hk : k < n) : overlay (listP F n k) (numL n + 32 * k) (idF F k) = listP F n (k + 1) := by
  have hl : (numB n ++ F.take (32 * k)).length = numL n + 32 * k := by rw [List.length_append, numB_length, List.length_take]; omega
  have hid := idF_length F n k hF hk
  have e : listP F n k = (numB n ++ F.take (32 * k)) ++ zerosB (32 * (n - k)) := by rw [listP, List.append_assoc]
  rw [e]
  unfold overlay
  rw [List.take_left' hl, hid, List.drop_append, List.drop_eq_nil_of_le (by rw [hl]; omega), List.nil_append, hl]
  have hz : (zerosB (32 * (n - k))).drop (numL n + 32 * k + 32 - (numL n + 32 * k)) = zerosB (32 * (n - (k + 1))) := by
    unfold zerosB
    rw [List.drop_replicate]; congr 1; omega
  rw [hz, listP, ← take_ids]
  simp only [List.append_assoc]
theorem listP_all (F : List Int) (n : Nat) (hF : F.length = 32 * n) : listP F n n = numB n ++ F := by
  unfold listP
  rw [Nat.sub_self, Nat.mul_zero, List.take_of_length_le (by omega)]
  simp [zerosB]
set_option maxRecDepth 100000 in
theorem ids_ok (F : List Int) (n : Nat) (v : Value) (w : World) (hr : RdI w v n F) (hF : Bytes F) (hn : n ≤ 60) (h : riseF F n = true) :
    Calls Try.prog 31 #[v] w fun e w' => ∃ g, e = .returned (.tuple #[.slice (some ⟨g, 0, none⟩) (numL n + 32 * n) (numL n + 32 * n), .int .i64 0]) ∧ w.heap.size ≤ g ∧ w'.heap[g]? = some (.cells (u8s (numB n ++ F)) 5 (0, 0)) ∧ Below w.heap.size w w' := by
  have hc := increase_any F n v w hr hF (by omega)
  rw [h] at hc
  have hc' := Lib.hid hc
  have hcn0 := fun wi => counted_any n (32 * n) (by omega) (by omega) wi
  have hlen := Lib.hid hr.len
  have hL9 := numL_le n (by omega)
  have hps := Lib.hid (fun k (hk : k < n) => listP_step F n k hlen.out hk)
  have hpl := Lib.hid (fun k (hk : k ≤ n) => listP_length F n k hlen.out hk)
  have hpa := Lib.hid (listP_all F n hlen.out)
  have hp0 : numB n ++ zerosB (32 * n) = listP F n 0 := by simp [listP]
  simp only [hp0, show ((32 * n : Nat) : Int) = (n : Int) * 32 by omega] at hcn0
  have hcn := Lib.hid hcn0
  obtain ⟨a, c, rfl⟩ := hr.slice
  have hr' := Lib.hid hr
  clear hr hF h hc hcn0 hp0
  generalize numB n ++ F = BF at *
  generalize numL n = L at *
  obtain ⟨T, hT⟩ : ∃ T, L + 32 * n = T := ⟨_, rfl⟩
  rw [hT] at hcn hpl ⊢
  have hTm : T ≤ 3000 := by omega
  go_enter Try.func31, Try.ntmps31
  go_wp2_with (first
    | (go_at_call 41; (with_reducible refine (hc'.out).mono ?_); rintro e w1 ⟨rfl, hb⟩; have hb' := Lib.hid hb; clear hb)
    | (go_at_call 42; (with_reducible refine (hcn.out _).mono ?_); rintro e w2 ⟨g, rfl, hg, h1, h2, h3, hb⟩; have r1 := Lib.hid h1; have r2 := Lib.hid h2; have r3 := Lib.hid h3; have hg' := Nat.le_trans hb'.out.size hg; have hB := Lib.hid (hb'.out.trans (hb.mono hb'.out.size)); clear h1 h2 h3 hb hg))
  clear hc' hcn hb'
  go_loopw [25] (fun i wr => ∃ k : Nat, k ≤ n ∧ i = .int .i64 k ∧ Below w.heap.size w wr ∧ wr.heap[g]? = some (.cells (u8s (listP F n k)) 5 (0, 0)) ∧ wr.heap[g + 1]? = some (.cells #[.slice (some ⟨g, 0, none⟩) T T] 29 (0, 0)) ∧ wr.heap[g + 2]? = some (.cells #[.int .i64 ((L + 32 * k : Nat) : Int)] 3 (0, 0))) (fun i _ => n - (intOf i).toNat)
  case atStart => exact ⟨0, Nat.zero_le _, rfl, hB.out, r1.out, r2.out, r3.out⟩
  case round =>
    obtain ⟨k, hk, rfl, hb, q1, q2, q3⟩ := hrel
    have hb' := Lib.hid hb; have q1' := Lib.hid q1; have q2' := Lib.hid q2; have q3' := Lib.hid q3
    clear hb q1 q2 q3 r1 r2 r3 hB
    by_cases hlt : k < n
    · obtain ⟨b, o, rfl, hbw, hnc, rng, _⟩ := rdI_at hr'.out hb'.out k hlt
      have rng' := Lib.hid rng
      have l1 := Lib.hid (idF_length F n k hlen.out hlt)
      have hst := Lib.hid (hps.out k hlt)
      have hpk := Lib.hid (hpl.out k hk)
      clear rng
      generalize idF F k = A at *
      generalize listP F n k = PK at *
      have i1 : Hid ((Try.prog.info? 47).map (·.size) = some (idV A).length) := Lib.hid (by rw [idV_length, l1.out]; kernel_rfl)
      have i2 : Hid ((Try.prog.info? 47).map (·.size) = some (u8s A).size) := Lib.hid (by rw [u8s_size, l1.out]; kernel_rfl)
      have hs := Lib.hid (show 32 = (u8s A).size from by rw [u8s_size, l1.out])
      have hfull := fun wx => run_sliceAt_full (P := Try.prog) Try.underlying47 (by kernel_rfl) wr.heap.size wx
      go_wp2_with (first
        | (refine wpList_load_mid rfl 47 _ rfl b (o + k * 32) rfl (idV A) _ rng'.out Try.underlying47 rfl i1.out ?_; rw [idV_arr])
        | (refine storeNewW wr rfl 47 _ _ rfl (u8s A) 47 rfl rfl i2.out (Eq.trans (by kernel_rfl) hs.out) (u8s_one _) ?_; intro wx hrow hb2; have hrow' := Lib.hid hrow; have hb2' := Lib.hid hb2; clear hrow hb2; refine Stop.go'' _ ?_))
      refine StopP.go ?_
      have hgl : g < wr.heap.size := (Array.getElem?_eq_some_iff.1 q1'.out).1
      have hgl1 : g + 1 < wr.heap.size := (Array.getElem?_eq_some_iff.1 q2'.out).1
      have hgl2 : g + 2 < wr.heap.size := (Array.getElem?_eq_some_iff.1 q3'.out).1
      have hp := Lib.hid (put_any g (L + 32 * k) T PK (.slice (some ⟨wr.heap.size, 0, none⟩) 32 32) A wx hpk.out ((hb2'.out.block _ hgl).trans q1'.out) ((hb2'.out.block _ hgl1).trans q2'.out) ((hb2'.out.block _ hgl2).trans q3'.out) (rdB_row hrow'.out 32 l1.out (by unfold maxLen; omega)) (by rw [l1.out]; omega) (by omega))
      clear hrow'
      go_wp2_with (go_at_call 48; (with_reducible refine (hp.out).mono ?_); rintro e w4 ⟨⟨v4, rfl⟩, s1, s2, s3, hb4⟩; have s1' := Lib.hid s1; have s2' := Lib.hid s2; have s3' := Lib.hid s3; have hb4' := Lib.hid hb4; clear s1 s2 s3 hb4)
      go_roundw
      case rel =>
        refine ⟨k + 1, by omega, by go_num, ?_, ?_, s2'.out, ?_⟩
        · exact hb'.out.trans ((hb2'.out.mono hb'.out.size).trans (hb4'.out.mono hg'))
        · rw [← hst.out]; exact s1'.out
        · have h := s3'.out
          rw [l1.out] at h
          exact h
      case measure => simp [intOf]; omega
    · obtain rfl : k = n := by omega
      rw [hpa.out] at q1'
      go_wp2
      go_ret2
      exact ⟨g, rfl, hg', q1'.out, hb'.out⟩
end Go.Proofs.Ytfaojjleapenaab
namespace Go.Proofs.Ytfaojjleapenaab
open Go.RowKit Go.Ytfaojjleapenaab
set_option linter.unusedVariables false
theorem run_sliceAt_off {P : Program} {t n elem : Nat} (ht : P.underlying t = some (.array n elem)) (hs : (P.info? elem).map (·.size) = some 1) (b o : Nat) (w : World) :
    (Instr.sliceAt t (.pointer (some ⟨b, o, none⟩)) none none none).run P w = .ok (.slice (some ⟨b, o, none⟩) n n) w := by
  cases hq : P.info? elem with
  | none => simp [hq] at hs
  | some inf =>
    simp [Instr.sliceAt, run_underlying ht, Instr.sureAddr, Instr.sliceBounds, sizeOf, typeInfo, hq]
    unfold Addr.add
    simp
end Go.Proofs.Ytfaojjleapenaab
namespace Go
namespace Ytfaojjleapenaab
open RowKit
theorem madeCells_ids (n : Nat) : madeCells (u8s (zerosB 32)) n = u8s (zerosB n) := by
  apply Array.ext
  · rw [size_madeCells, u8s_size, zerosB_length]
  · intro i h1 h2
    have hi : i < n := by rw [size_madeCells] at h1; exact h1
    have hz : ∀ m k, k < m → (u8s (zerosB m))[k]! = Value.int .u8 0 := by
      intro m k hk
      rw [getElem!_pos _ _ (by rw [u8s_size, zerosB_length]; exact hk)]
      simp [u8s, zerosB]
    have h3 : (u8s (zerosB 32)).size = 32 := by rw [u8s_size, zerosB_length]
    simp only [madeCells, Array.getElem_map, Array.getElem_range, h3]
    rw [hz 32 _ (Nat.mod_lt _ (by decide))]
    simp [u8s, zerosB]
section
variable {P : Program}
theorem run_makeI (w : World) (t e : TypeId) (ht : P.underlying t = some (.slice e)) (hinfo : (P.info? e).map (fun i => (i.zero, i.size, i.bytes)) = some (some (.agg (u8s (zerosB 32))), 32, 32))
    (n : Nat) (hn : n ≤ 1000000) :
    (Instr.makeSlice t (.int .i64 (n : Int)) (.int .i64 (n : Int))).run P w = .ok (.slice (some ⟨w.heap.size, 0, none⟩) n n) (w.alloc (.cells (u8s (zerosB (32 * n))) e)) := by
  obtain ⟨i, hi, hz, hs, hb⟩ := info_parts hinfo
  have h := run_make (P := P) w t e i (.agg (u8s (zerosB 32))) ht hi hz .i64 .i64 (n : Int) (n : Int) (by omega) (by omega) (by rw [hb]; omega) (by omega)
  rw [h, hs]
  simp only [Int.toNat_natCast, Value.cells]
  rw [madeCells_ids, Nat.mul_comm]
/-- Copying as' many bytes as' the place has, out of a slice that has more. -/
theorem copyB_part {ops : Array Oper} {rest : List Oper} {o : Oper} {a : Act} {w : World} {Q : Exit → Act → World → Prop} (hgd : o.guard = none) (d s : Operand) (dT sT : TypeId)
    (ho : o.op = .call { callee := .builtin .copy, args := #[d, s], argTypes := #[dT, sT] }) (elem : TypeId) (hu : P.underlying dT = some (.slice elem)) (hsz : (P.info? elem).map (·.size) = some 1)
    (g off dLen dCap : Nat) (hd : a.eval d = .slice (some ⟨g, off, none⟩) dLen dCap) (sv : Value) (hs : a.eval s = sv) (r : List Int) (hr : RdB w sv r) (h0 : 0 < dLen)
    (cs : List Int) (t : TypeId) (hg : w.heap[g]? = some (.cells (u8s cs) t (0, 0))) (hle : dLen ≤ r.length) (hfit : off + dLen ≤ cs.length)
    (h : ∀ w', Hid (w' = w.setRow g (u8s (overlay cs off (r.take dLen)))) → Stop (wpList P ops Q rest (a.put o.dst (goInt dLen)) w')) : wpList P ops Q (o :: rest) a w := by
  have h := (h _ (show _ = _ from rfl)).out
  rcases hr with ⟨sa, sc, rfl, _, rfl⟩ | ⟨b, o', c, rfl, h1, h2, h3, h4⟩
  · simp at hle; omega
  · have hl : (r.take dLen).length = dLen := by rw [List.length_take]; omega
    refine wpList_copy_own hgd d s dT sT ho elem hu hsz g off dLen dCap ⟨b, o', none⟩ r.length c hd hs (u8s cs) t hg (u8v (r.take dLen)) (by rw [u8v_length, hl]; exact (Nat.min_eq_right hle).symm)
      (RdB.src (fun i hi => by rw [hl] at hi; rw [ith_take _ _ _ hi]; exact h4 i (by omega))) (by rw [u8v_length, u8s_size, hl]; exact hfit) (u8v_one _) ?_
    rw [u8v_length, hl]
    have e : ((u8s cs).toList.take off ++ (u8v (r.take dLen) ++ (u8s cs).toList.drop (off + dLen))).toArray = u8s (overlay cs off (r.take dLen)) := by
      rw [overlay, hl]
      simp [u8s, u8v]
    rw [e]; exact h
end
end Ytfaojjleapenaab
end Go
namespace Go.Proofs.Ytfaojjleapenaab
open Go.RowKit Go.Ytfaojjleapenaab
set_option linter.unusedVariables false
theorem rdI_row {w : World} {g : Nat} {F : List Int} {E : TypeId} (hg : w.heap[g]? = some (.cells (u8s F) E (0, 0))) (n : Nat) (hF : F.length = 32 * n) (hn : n ≤ 1000000) : RdI w (.slice (some ⟨g, 0, none⟩) n n) n F :=
  .inr ⟨g, 0, n, rfl, Nat.le_refl _, by unfold maxLen; omega, (Array.getElem?_eq_some_iff.1 hg).1, hF, fun i hi => by
    rw [Nat.zero_add, cell_of_row _ _ _ _ _ _ hg]; exact u8s_get _ _ hi⟩
/-- A row after k ids. -/
def idsP (F : List Int) (n k : Nat) : List Int := F.take (32 * k) ++ zerosB (32 * (n - k))
theorem idsP_length (F : List Int) (n k : Nat) (hF : F.length = 32 * n) (hk : k ≤ n) : (idsP F n k).length = 32 * n := by
  rw [idsP, List.length_append, List.length_take, zerosB_length]; omega
theorem idsP_step (F : List Int) (n k : Nat) (hF : F.length = 32 * n) (hk : k < n) : overlay (idsP F n k) (32 * k) (idF F k) = idsP F n (k + 1) := by
  have hl : (F.take (32 * k)).length = 32 * k := by rw [List.length_take]; omega
  have hid := idF_length F n k hF hk
  unfold overlay idsP
  rw [List.take_left' hl, hid, List.drop_append, List.drop_eq_nil_of_le (by rw [hl]; omega), List.nil_append, hl]
  have hz : (zerosB (32 * (n - k))).drop (32 * k + 32 - 32 * k) = zerosB (32 * (n - (k + 1))) := by
    unfold zerosB
    rw [List.drop_replicate]; congr 1; omega
  rw [hz, ← take_ids, List.append_assoc]
theorem idsP_all (F : List Int) (n : Nat) (hF : F.length = 32 * n) : idsP F n n = F := by
  unfold idsP
  rw [Nat.sub_self, Nat.mul_zero, List.take_of_length_le (by omega)]
  simp [zerosB]
theorem idsP_zero (F : List Int) (n : Nat) : idsP F n 0 = zerosB (32 * n) := by simp [idsP]
theorem readIDs_no (l : List Int) (bv : Value) (most : Int) (h0 : 0 ≤ most) (hmx : most ≤ 9223372036854775807) (w : World) (hr : RdB w bv l) (hl : Bytes l) (hlm : l.length ≤ 1000000) (h : readC l most 32 = none) :
    Calls Try.prog 45 #[bv, .int .i64 most] w fun e w' => e = .returned (.tuple #[.slice none 0 0, .int .i64 0, .int .i64 12]) ∧ w = w' := by
  have hc0 := readCounted_no l bv most h0 hmx 32 (by omega) (by omega) w hr hl hlm h
  rw [show ((32 : Nat) : Int) = 32 from rfl] at hc0
  have hc := Lib.hid hc0
  clear hc0
  obtain ⟨a, c, rfl⟩ := hr.slice
  clear hr hl h
  go_enter Try.func45, Try.ntmps45
  go_wp2_with (go_at_call 50; (with_reducible refine (hc.out).mono ?_); rintro e w1 ⟨rfl, rfl⟩)
  go_ret3
  exact ⟨rfl, rfl⟩
/-- What is read: where it increases, and where it doesn't. -/
def readIDsPost (w : World) (F : List Int) (n used : Nat) (e : Ending) (w' : World) : Prop :=
  Below w.heap.size w w' ∧ if riseF F n = true then e = .returned (.tuple #[.slice (some ⟨w.heap.size, 0, none⟩) n n, .int .i64 (used : Nat), .int .i64 0]) ∧ w'.heap[w.heap.size]? = some (.cells (u8s F) 47 (0, 0)) else e = .returned (.tuple #[.slice none 0 0, .int .i64 0, .int .i64 12])
set_option maxRecDepth 100000 in
theorem readIDs_ok (l : List Int) (bv : Value) (most : Int) (h0 : 0 ≤ most) (hmx : most ≤ 9223372036854775807) (w : World) (hr : RdB w bv l) (hl : Bytes l) (hlm : l.length ≤ 1000000) (n u : Nat) (h : readC l most 32 = some (n, u)) :
    Calls Try.prog 45 #[bv, .int .i64 most] w (readIDsPost w ((l.drop u).take (n * 32)) n (u + n * 32)) := by
  have hc0 := readCounted_ok l bv most h0 hmx 32 (by omega) (by omega) w hr hl hlm n u h
  rw [show ((32 : Nat) : Int) = 32 from rfl] at hc0
  have hc := Lib.hid hc0
  obtain ⟨hre, g1, g2⟩ := readC_some h
  have hul := (readF_some hl hre).2.2.1
  have hn6 : n * 32 ≤ 1000000 := by omega
  have hlen := Lib.hid (show ((l.drop u).take (n * 32)).length = 32 * n by rw [List.length_take, List.length_drop]; omega)
  have hFb := Lib.hid (show Bytes ((l.drop u).take (n * 32)) from bytes_take _ _ (bytes_drop l u hl))
  obtain ⟨a, c, rfl⟩ := hr.slice
  clear hr hl h hre g1 g2 hul hc0
  generalize l.length = LL at *
  generalize (l.drop u).take (n * 32) = F at *
  have hps := Lib.hid (fun k (hk : k < n) => idsP_step F n k hlen.out hk)
  have hpl := Lib.hid (fun k (hk : k ≤ n) => idsP_length F n k hlen.out hk)
  have hpa := Lib.hid (idsP_all F n hlen.out)
  have hmk := fun (wx : World) => run_makeI (P := Try.prog) wx 23 47 Try.underlying23 (by kernel_rfl) n (by omega)
  have hrow := heap_alloc_new w (.cells (u8s (zerosB (32 * n))) 47)
  rw [← idsP_zero F n] at hrow
  have hrow' := Lib.hid hrow
  have hB0 := Lib.hid (below_a1 w (.cells (u8s (zerosB (32 * n))) 47))
  rw [idsP_zero F n] at hrow'
  obtain ⟨V, hV⟩ : ∃ V, n * 32 = V := ⟨_, rfl⟩
  rw [hV] at hc hn6 ⊢
  have hdiv : (V : Int) / 32 = (n : Int) := by omega
  have hVc := Lib.hid hV
  have hz0 := Lib.hid (idsP_zero F n)
  clear hV hrow
  go_enter Try.func45, Try.ntmps45
  go_wp2_with (go_at_call 50; (with_reducible refine (hc.out).mono ?_); rintro e w1 ⟨A, C, rfl, hrd, rfl⟩; have hrd' := Lib.hid hrd; clear hrd)
  generalize hW : w.alloc (.cells (u8s (zerosB (32 * n))) 47) = W at *
  have hW' := Lib.hid hW
  clear hW hc hmk
  go_loopw [28] (fun i wr => ∃ k : Nat, k ≤ n ∧ i = .int .i64 k ∧ Below w.heap.size w wr ∧ wr.heap[w.heap.size]? = some (.cells (u8s (idsP F n k)) 47 (0, 0))) (fun i _ => n - (intOf i).toNat)
  case atStart => exact ⟨0, Nat.zero_le _, rfl, hB0.out, by rw [hz0.out]; exact hrow'.out⟩
  case round =>
    obtain ⟨k, hk, rfl, hb, q1⟩ := hrel
    have hb' := Lib.hid hb; have q1' := Lib.hid q1
    clear hb q1 hB0 hrow'
    by_cases hlt : k < n
    · have hkV : k * 32 + 32 ≤ V := by have := hVc.out; omega
      have hVC : V ≤ C := rdB_cap hrd'.out
      obtain ⟨b, o, hA, hbw⟩ : ∃ b o, A = some ⟨b, o, none⟩ ∧ b < w.heap.size := by
        obtain ⟨b, o, h1, h2, _⟩ := rdB_at hrd'.out 0 (by rw [hlen.out]; omega)
        exact ⟨b, o, h1, h2⟩
      subst hA
      have rs := Lib.hid ((rdB_sub hrd'.out (k * 32) (V - k * 32) (C - k * 32) (by omega) (by omega) (by omega)).mono hb'.out)
      have rsl := Lib.hid (show ((F.drop (k * 32)).take (V - k * 32)).length = V - k * 32 by rw [List.length_take, List.length_drop, hlen.out]; have := hVc.out; omega)
      have rst := Lib.hid (show ((F.drop (k * 32)).take (V - k * 32)).take 32 = idF F k by rw [List.take_take, Nat.min_eq_left (by omega), idF, Nat.mul_comm])
      have hst := Lib.hid (hps.out k hlt)
      have hpk := Lib.hid (hpl.out k hk)
      generalize (F.drop (k * 32)).take (V - k * 32) = R at *
      generalize idsP F n k = PK at *
      have hoff := fun wx => run_sliceAt_off (P := Try.prog) Try.underlying47 (by kernel_rfl) w.heap.size (k * 32) wx
      have x1 : IntKind.i64.wrap ((k : Int) * 32) = (k : Int) * 32 := IntWalk.i64_in _ (by omega)
      have x2 : (0 : Int) ≤ (k : Int) * 32 := by omega
      have x3 : ((k : Int) * 32).toNat = k * 32 := by omega
      have x4 : (k : Int) * 32 ≤ (V : Int) := by omega
      have x5 : k * 32 ≤ V := by omega
      have x6 : ¬ C = k * 32 := by omega
      have x7 : k * 32 ≤ C := by omega
      have x8 : k ≤ 31250 := by omega
      go_wp2
      refine wp_region_headN (C := fun w' => ∃ n, w' = wr.drewN n) 8 [] (by kernel_rfl) (by kernel_rfl) ⟨1, rfl⟩ ?_
      simp only [List.take_succ_cons, List.take_zero, List.drop_succ_cons, List.drop_zero]
      repeat (refine head_walk (by rfl) (fun K hK => ?_); go_simp; refine hK _ ?_; clear hK K)
      refine head_nil ?_
      rintro w' ⟨nz, rfl⟩
      have rs2 := Lib.hid (draws_rdB ((Draws.refl wr).drewN nz) rs.out)
      have q2 := Lib.hid (show (wr.drewN nz).heap[w.heap.size]? = some (.cells (u8s PK) 47 (0, 0)) from q1'.out)
      have hb2 := Lib.hid (((Draws.refl wr).drewN nz).below hb'.out)
      clear x1 x2 x3 x4 x5 x6 x7 x8 hoff rs q1' hb'
      generalize wr.drewN nz = wz at *
      go_wp2_with (refine copyB_part rfl _ _ 29 29 rfl 5 Try.underlying29 (by kernel_rfl) w.heap.size (k * 32) 32 32 rfl _ rfl R rs2.out (by omega) PK 47 q2.out (by rw [rsl.out]; omega) (by rw [hpk.out]; omega) ?_)
      intro w5 hw5
      have q5 := Lib.hid (show w5.heap[w.heap.size]? = some (.cells (u8s (idsP F n (k + 1))) 47 (0, 0)) by rw [hw5.out, rst.out, Nat.mul_comm k 32, hst.out]; exact setRow_heap _ _ _ _ _ _ q2.out)
      have hb5 := Lib.hid (show Below w.heap.size w w5 by rw [hw5.out]; exact below_setRow' hb2.out (Nat.le_refl _) _)
      clear hw5
      refine Stop.go ?_
      go_wp2
      refine NoPanic.normal ?_
      go_wp2
      go_roundw
      case rel => exact ⟨k + 1, by omega, by go_num, hb5.out, q5.out⟩
      case measure => simp [intOf]; omega
    · obtain rfl : k = n := by omega
      rw [hpa.out] at q1'
      have hinc := Lib.hid (increase_any F k (.slice (some ⟨w.heap.size, 0, none⟩) k k) wr (rdI_row q1'.out k hlen.out (by omega)) hFb.out (by omega))
      cases hri : riseF F k
      · rw [hri] at hinc
        go_wp2_with (go_at_call 41; (with_reducible refine (hinc.out).mono ?_); rintro e w6 ⟨rfl, hb6⟩; have hb6' := Lib.hid hb6; clear hb6)
        go_ret3
        exact ⟨hb'.out.trans (hb6'.out.mono hb'.out.size), by rw [if_neg (by rw [hri]; decide)]; rfl⟩
      · rw [hri] at hinc
        go_wp2_with (go_at_call 41; (with_reducible refine (hinc.out).mono ?_); rintro e w6 ⟨rfl, hb6⟩; have hb6' := Lib.hid hb6; clear hb6)
        go_ret3
        refine ⟨hb'.out.trans (hb6'.out.mono hb'.out.size), ?_⟩
        rw [if_pos hri]
        exact ⟨rfl, (hb6'.out.block _ (Array.getElem?_eq_some_iff.1 q1'.out).1).trans q1'.out⟩
end Go.Proofs.Ytfaojjleapenaab
namespace Go.Proofs.Ytfaojjleapenaab
open Go.RowKit Go.Ytfaojjleapenaab
set_option linter.unusedVariables false
theorem list_part (F b : List Int) (n : Nat) (hF : F.length = 32 * n) : (((numB n ++ F) ++ b).drop (numL n)).take (n * 32) = F := by
  rw [List.append_assoc, List.drop_left' (numB_length _), List.take_left' (by rw [hF]; omega)]
end Go.Proofs.Ytfaojjleapenaab
namespace Go.Proofs.Ytfaojjleapenaab
open Go.RowKit Go.Ytfaojjleapenaab
set_option linter.unusedVariables false
/-- A frame: its kind, its number, n ids (their bytes, one behind the other, are F), its strings. -/
structure Fr where
  k : Int
  N : Nat
  n : Nat
  F : List Int
  L : List (List Int)
abbrev Fr.c (f : Fr) (iv ov : Value) : Array Value := #[.int .u8 f.k, .int .u64 (f.N : Int), iv, ov]
structure Fr.Fit (f : Fr) : Prop where
  k : 0 ≤ f.k ∧ f.k < 256
  N : f.N < 18446744073709551616
  n : f.n ≤ 100000
  F : Bytes f.F
  len : f.F.length = 32 * f.n
  l : f.L.length ≤ 100000
  L : ∀ i, Bytes (nthL f.L i)
  s : ∀ i, (nthL f.L i).length ≤ 1000000
def numK (k : Int) : Bool := decide (k = 1) || decide (k = 6)
def idsK (k : Int) : Bool := decide (k = 2) || (decide (k = 3) || decide (k = 4))
def okS (L : List (List Int)) : Bool := L.all fun s => decide (s.length ≤ 400)
def okL (L : List (List Int)) : Bool := decide (L.length ≤ 8) && okS L
def partsB (f : Fr) : Bool :=
  if numK f.k = true then decide (f.n = 0) && decide (f.L.length = 0)
  else if idsK f.k = true then decide (f.N = 0) && (decide (f.L.length = 0) && (decide (f.n ≤ 40) && riseF f.F f.n))
  else decide (f.k = 5) && (decide (f.N = 0) && (decide (f.n = 0) && okL f.L))
/-- The bytes of the first strings. -/
def txts (L : List (List Int)) : Nat → List Int
  | 0 => []
  | k + 1 => txts L k ++ textB (nthL L k)
def frB (f : Fr) : List Int := [f.k] ++ (if numK f.k = true then numB f.N else if idsK f.k = true then numB f.n ++ f.F else numB f.L.length ++ txts f.L f.L.length)
def frOk (f : Fr) : Bool := partsB f && decide ((frB f).length ≤ 2000)
def chkR (f : Fr) : Int := if frOk f = true then 0 else 8
theorem okS_yes {L : List (List Int)} (h : ∀ i, i < L.length → (nthL L i).length ≤ 400) : okS L = true := by
  unfold okS
  rw [List.all_eq_true]
  intro s hs
  obtain ⟨i, hi, e⟩ := List.getElem_of_mem hs
  have := h i hi
  unfold nthL at this
  rw [List.getElem?_eq_getElem hi, e] at this
  simpa using this
theorem okS_at {L : List (List Int)} (h : okS L = true) (i : Nat) : (nthL L i).length ≤ 400 := by
  unfold okS at h
  rw [List.all_eq_true] at h
  unfold nthL
  cases hi : L[i]? with
  | none => simp
  | some s =>
    have := h s (List.mem_of_getElem? hi)
    simpa using this
theorem okS_no {L : List (List Int)} (i : Nat) (h : 400 < (nthL L i).length) : okS L = false := by
  cases hc : okS L
  · rfl
  · have := okS_at hc i
    omega
/-- What is read of so many strings: them, and how many bytes they have. -/
def readT (l : List Int) : Nat → Option (List (List Int) × Nat)
  | 0 => some ([], 0)
  | c + 1 => match readT l c with
    | none => none
    | some p => match readC (l.drop p.2) 400 1 with
      | none => none
      | some q => some (p.1 ++ [((l.drop p.2).drop q.2).take q.1], p.2 + (q.2 + q.1))
def readS (b : List Int) : Option (List (List Int) × Nat) :=
  match readF b with
  | none => none
  | some p => if 8 < p.1 then none else match readT (b.drop p.2) p.1 with
    | none => none
    | some q => some (q.1, p.2 + q.2)
def readR (k : Int) (b : List Int) : Option (Fr × Nat) :=
  if numK k = true then (match readF b with
    | none => none
    | some p => some (⟨k, p.1, 0, [], []⟩, p.2))
  else if idsK k = true then (match readC b 40 32 with
    | none => none
    | some p => if riseF ((b.drop p.2).take (p.1 * 32)) p.1 = true then some (⟨k, 0, p.1, (b.drop p.2).take (p.1 * 32), []⟩, p.2 + p.1 * 32) else none)
  else if k = 5 then (match readS b with
    | none => none
    | some q => some (⟨k, 0, 0, [], q.1⟩, q.2))
  else none
def parseF (l : List Int) : Option Fr :=
  if l.length = 0 ∨ 2000 < l.length then none else match readR (ith l 0) (l.drop 1) with
    | none => none
    | some p => if p.2 = l.length - 1 then some p.1 else none
theorem nthL_pre (L M : List (List Int)) (i : Nat) (h : i < L.length) : nthL (L ++ M) i = nthL L i := by
  unfold nthL
  rw [List.getElem?_append_left h]
theorem nthL_last (L : List (List Int)) (s : List Int) : nthL (L ++ [s]) L.length = s := by
  unfold nthL
  simp
theorem nthL_out (L : List (List Int)) (i : Nat) (h : L.length ≤ i) : nthL L i = [] := by
  unfold nthL
  rw [List.getElem?_eq_none h]
  rfl
theorem nthL_snoc {p : List Int → Prop} (L : List (List Int)) (s : List Int) (h0 : p []) (h1 : ∀ i, p (nthL L i)) (h2 : p s) (i : Nat) : p (nthL (L ++ [s]) i) := by
  rcases Nat.lt_trichotomy i L.length with h | h | h
  · rw [nthL_pre _ _ _ h]; exact h1 i
  · rw [h, nthL_last]; exact h2
  · rw [nthL_out _ _ (by simp; omega)]; exact h0
theorem txts_pre (L M : List (List Int)) : ∀ k, k ≤ L.length → txts (L ++ M) k = txts L k
  | 0, _ => rfl
  | k + 1, h => by
    unfold txts
    rw [txts_pre L M k (by omega), nthL_pre _ _ _ (by omega)]
theorem txts_more (L : List (List Int)) (c : Nat) : ∀ m, c < m → ∃ r, txts L m = txts L c ++ (textB (nthL L c) ++ r)
  | 0, h => by omega
  | m + 1, h => by
    rcases Nat.lt_or_ge c m with h1 | h1
    · obtain ⟨r, hr⟩ := txts_more L c m h1
      exact ⟨r ++ textB (nthL L m), by rw [show txts L (m + 1) = txts L m ++ textB (nthL L m) from rfl, hr]; simp only [List.append_assoc]⟩
    · obtain rfl : c = m := by omega
      exact ⟨[], by rw [List.append_nil]; rfl⟩
theorem readC_textG (s b : List Int) (M : Nat) (hs : s.length ≤ M) (hM : M ≤ 1000000) : readC (textB s ++ b) (M : Int) 1 = some (s.length, numL s.length) := by
  have h := readF_num s.length (by omega) (s ++ b)
  rw [← List.append_assoc] at h
  unfold readC textB
  rw [h]
  have h2 : ((s.length : Nat) : Int) ≤ (M : Int) ∧ s.length ≤ ((numB s.length ++ s ++ b).length - numL s.length) / 1 := by
    refine ⟨by omega, ?_⟩
    rw [Nat.div_one, List.length_append, List.length_append, numB_length]; omega
  simp only [h2, and_self, if_true]
theorem readC_backG {b : List Int} (hb : Bytes b) {M : Int} {n u : Nat} (h : readC b M 1 = some (n, u)) : b.take (u + n) = textB ((b.drop u).take n) ∧ ((b.drop u).take n).length = n ∧ 1 ≤ u ∧ u + n ≤ b.length ∧ (n : Int) ≤ M := by
  obtain ⟨h1, h2, h3⟩ := readC_some h
  obtain ⟨a1, a2, a3, a4⟩ := readF_some hb h1
  rw [Nat.div_one] at h3
  have hlen : ((b.drop u).take n).length = n := by rw [List.length_take, List.length_drop]; omega
  refine ⟨?_, hlen, by rw [a2]; exact numL_pos n, by omega, h2⟩
  rw [textB, hlen, ← a4, List.take_add]
theorem readT_step {l : List Int} {c : Nat} {L : List (List Int)} {u n v : Nat} (h1 : readT l c = some (L, u)) (h2 : readC (l.drop u) 400 1 = some (n, v)) :
    readT l (c + 1) = some (L ++ [((l.drop u).drop v).take n], u + (v + n)) := by
  unfold readT
  rw [h1]
  simp only [h2]
theorem readT_none {l : List Int} {c : Nat} {L : List (List Int)} {u : Nat} (h1 : readT l c = some (L, u)) (h2 : readC (l.drop u) 400 1 = none) : readT l (c + 1) = none := by
  unfold readT
  rw [h1]
  simp only [h2]
theorem readT_gone {l : List Int} {c : Nat} (h1 : readT l c = none) : ∀ m, c ≤ m → readT l m = none
  | 0, h => by
    obtain rfl : c = 0 := by omega
    exact h1
  | m + 1, h => by
    rcases Nat.lt_or_ge m c with h2 | h2
    · obtain rfl : c = m + 1 := by omega
      exact h1
    · unfold readT
      rw [readT_gone h1 m h2]
theorem readT_back {l : List Int} (hl : Bytes l) : ∀ (c : Nat) (L : List (List Int)) (u : Nat), readT l c = some (L, u) → L.length = c ∧ u ≤ l.length ∧ l.take u = txts L c ∧ (∀ i, (nthL L i).length ≤ 400) ∧ ∀ i, Bytes (nthL L i)
  | 0, L, u, h => by
    have h := Option.some.inj h
    obtain ⟨h1, h2⟩ := Prod.mk.inj h
    subst h1 h2
    exact ⟨rfl, Nat.zero_le _, by rw [List.take_zero]; rfl, fun i => by simp [nthL], fun i => by simp only [nthL, List.getElem?_nil, Option.getD_none]; exact bytes_nil⟩
  | c + 1, L, u, h => by
    cases h1 : readT l c with
    | none => rw [readT_gone h1 (c + 1) (by omega)] at h; cases h
    | some p =>
      obtain ⟨M, v⟩ := p
      obtain ⟨k1, k2, k3, k4, k5⟩ := readT_back hl c M v h1
      cases h2 : readC (l.drop v) 400 1 with
      | none => rw [readT_none h1 h2] at h; cases h
      | some q =>
        obtain ⟨n, x⟩ := q
        rw [readT_step h1 h2] at h
        obtain ⟨e1, e2⟩ := Prod.mk.inj (Option.some.inj h)
        subst e1 e2
        obtain ⟨r1, r2, r3, r4, r5⟩ := readC_backG (bytes_drop l v hl) h2
        rw [List.length_drop] at r4
        refine ⟨by simp [k1], by omega, ?_, nthL_snoc (p := fun s => s.length ≤ 400) _ _ (by simp) k4 (by rw [r2]; omega), nthL_snoc (p := Bytes) _ _ bytes_nil k5 (bytes_take _ _ (bytes_drop _ _ (bytes_drop _ _ hl)))⟩
        rw [List.take_add, r1, k3, show txts (M ++ [(List.drop x (List.drop v l)).take n]) (c + 1) = txts (M ++ [(List.drop x (List.drop v l)).take n]) c ++ textB (nthL (M ++ [(List.drop x (List.drop v l)).take n]) c) from rfl, txts_pre _ _ _ (by omega), ← k1, nthL_last]
theorem readT_txts (L : List (List Int)) (h4 : ∀ i, (nthL L i).length ≤ 400) (m : Nat) (hm : m ≤ L.length) (t : List Int) : ∀ c, c ≤ m → readT (txts L m ++ t) c = some (L.take c, (txts L c).length)
  | 0, _ => rfl
  | c + 1, h => by
    have ih := readT_txts L h4 m hm t c (by omega)
    obtain ⟨r, hr⟩ := txts_more L c m (by omega)
    have hd : (txts L m ++ t).drop (txts L c).length = textB (nthL L c) ++ (r ++ t) := by
      rw [hr, List.append_assoc, List.drop_left' rfl, List.append_assoc]
    have hc := readC_textG (nthL L c) (r ++ t) 400 (h4 c) (by decide)
    rw [← hd] at hc
    rw [readT_step ih hc, hd, text_part]
    have e : L.take (c + 1) = L.take c ++ [nthL L c] := by
      rw [List.take_add_one]
      unfold nthL
      rw [List.getElem?_eq_getElem (by omega)]
      rfl
    rw [e, show txts L (c + 1) = txts L c ++ textB (nthL L c) from rfl, List.length_append, textB_length]
theorem num_nil : nthL [] = fun _ => [] := by funext i; simp [nthL]
theorem readR_back {k : Int} (hk : 0 ≤ k ∧ k < 256) {b : List Int} (hb : Bytes b) (hl : b.length ≤ 100000) {f : Fr} {u : Nat} (h : readR k b = some (f, u)) :
    f.k = k ∧ partsB f = true ∧ frB f = [k] ++ b.take u ∧ u ≤ b.length ∧ f.Fit := by
  unfold readR at h
  by_cases h1 : numK k = true
  · rw [if_pos h1] at h
    cases h2 : readF b with
    | none => rw [h2] at h; cases h
    | some p =>
      obtain ⟨n, v⟩ := p
      rw [h2] at h
      obtain ⟨e1, e2⟩ := Prod.mk.inj (Option.some.inj h)
      subst e1 e2
      obtain ⟨a1, a2, a3, a4⟩ := readF_some hb h2
      refine ⟨rfl, ?_, ?_, a3, ⟨hk, a1, Nat.zero_le _, bytes_nil, rfl, Nat.zero_le _, fun i => by rw [num_nil]; exact bytes_nil, fun i => by rw [num_nil]; simp⟩⟩
      · unfold partsB
        dsimp only
        rw [if_pos h1]
        rfl
      · unfold frB
        dsimp only
        rw [if_pos h1, a4]
  · rw [if_neg h1] at h
    by_cases h3 : idsK k = true
    · rw [if_pos h3] at h
      cases h2 : readC b 40 32 with
      | none => rw [h2] at h; cases h
      | some p =>
        obtain ⟨n, v⟩ := p
        rw [h2] at h
        simp only at h
        by_cases h5 : riseF ((b.drop v).take (n * 32)) n = true
        · rw [if_pos h5] at h
          obtain ⟨e1, e2⟩ := Prod.mk.inj (Option.some.inj h)
          subst e1 e2
          obtain ⟨c1, c2, c3⟩ := readC_some h2
          obtain ⟨a1, a2, a3, a4⟩ := readF_some hb c1
          have hlen : ((b.drop v).take (n * 32)).length = 32 * n := by rw [List.length_take, List.length_drop]; omega
          refine ⟨rfl, ?_, ?_, by omega, ⟨hk, (by decide : 0 < 18446744073709551616), by simp only; omega, bytes_take _ _ (bytes_drop _ _ hb), hlen, Nat.zero_le _, fun i => by rw [num_nil]; exact bytes_nil, fun i => by rw [num_nil]; simp⟩⟩
          · unfold partsB
            dsimp only
            rw [if_neg h1, if_pos h3, h5, decide_eq_true (show n ≤ 40 by omega)]
            rfl
          · unfold frB
            dsimp only
            rw [if_neg h1, if_pos h3, ← a4, List.take_add]
        · rw [if_neg h5] at h; cases h
    · rw [if_neg h3] at h
      by_cases h4 : k = 5
      · rw [if_pos h4] at h
        unfold readS at h
        cases h2 : readF b with
        | none => rw [h2] at h; cases h
        | some p =>
          obtain ⟨n, v⟩ := p
          rw [h2] at h
          simp only at h
          by_cases h5 : 8 < n
          · rw [if_pos h5] at h; cases h
          · rw [if_neg h5] at h
            cases h6 : readT (b.drop v) n with
            | none => rw [h6] at h; cases h
            | some q =>
              obtain ⟨L, x⟩ := q
              rw [h6] at h
              obtain ⟨e1, e2⟩ := Prod.mk.inj (Option.some.inj h)
              subst e1 e2
              obtain ⟨a1, a2, a3, a4⟩ := readF_some hb h2
              obtain ⟨t1, t2, t3, t4, t5⟩ := readT_back (bytes_drop b v hb) n L x h6
              rw [List.length_drop] at t2
              refine ⟨rfl, ?_, ?_, by simp only; omega, ⟨hk, (by decide : 0 < 18446744073709551616), Nat.zero_le _, bytes_nil, rfl, by simp only; omega, t5, fun i => Nat.le_trans (t4 i) (by decide)⟩⟩
              · unfold partsB okL
                dsimp only
                rw [if_neg h1, if_neg h3, okS_yes (fun i _ => t4 i), decide_eq_true h4, decide_eq_true (show L.length ≤ 8 by omega)]
                rfl
              · unfold frB
                dsimp only
                rw [if_neg h1, if_neg h3, t1, ← t3, List.take_add, ← a4]
      · rw [if_neg h4] at h; cases h
theorem nil_of_len {α : Type} {l : List α} (h : l.length = 0) : l = [] := List.eq_nil_of_length_eq_zero h
theorem readR_fr {f : Fr} (ff : f.Fit) (h : partsB f = true) (t : List Int) : readR f.k ((frB f).drop 1 ++ t) = some (f, (frB f).length - 1) := by
  obtain ⟨k, N, n, F, L⟩ := f
  obtain ⟨_, hN, hn, hF, hlen, hl, hL, hs⟩ := ff
  simp only at hN hn hF hlen hl hL hs
  have hd : (frB ⟨k, N, n, F, L⟩).drop 1 = if numK k = true then numB N else if idsK k = true then numB n ++ F else numB L.length ++ txts L L.length := by
    unfold frB
    rfl
  have hc : (frB ⟨k, N, n, F, L⟩).length - 1 = ((frB ⟨k, N, n, F, L⟩).drop 1).length := by rw [List.length_drop]
  rw [hc, hd]
  unfold partsB at h
  dsimp only at h ⊢
  unfold readR
  by_cases h1 : numK k = true
  · rw [if_pos h1, Bool.and_eq_true, decide_eq_true_eq, decide_eq_true_eq] at h
    rw [if_pos h1, if_pos h1]
    obtain ⟨rfl, h2⟩ := h
    obtain rfl := nil_of_len h2
    obtain rfl := nil_of_len (hlen.trans rfl)
    rw [readF_num N hN t, numB_length]
  · rw [if_neg h1] at h
    rw [if_neg h1, if_neg h1]
    by_cases h3 : idsK k = true
    · rw [if_pos h3, Bool.and_eq_true, Bool.and_eq_true, Bool.and_eq_true, decide_eq_true_eq, decide_eq_true_eq, decide_eq_true_eq] at h
      rw [if_pos h3, if_pos h3]
      obtain ⟨rfl, h2, h4, h5⟩ := h
      obtain rfl := nil_of_len h2
      have hc : readC ((numB n ++ F) ++ t) 40 32 = some (n, numL n) := by
        have h := readF_num n (by omega) (F ++ t)
        rw [← List.append_assoc] at h
        unfold readC
        rw [h]
        have h2 : ((n : Nat) : Int) ≤ 40 ∧ n ≤ (((numB n ++ F) ++ t).length - numL n) / 32 := by
          refine ⟨by omega, ?_⟩
          rw [List.length_append, List.length_append, numB_length]; omega
        simp only [h2, and_self, if_true]
      rw [hc]
      simp only
      rw [list_part F t n hlen, if_pos h5, List.length_append, numB_length, hlen, Nat.mul_comm 32 n]
    · rw [if_neg h3, Bool.and_eq_true, Bool.and_eq_true, Bool.and_eq_true, decide_eq_true_eq, decide_eq_true_eq, decide_eq_true_eq] at h
      rw [if_neg h3, if_neg h3]
      obtain ⟨rfl, rfl, rfl, h5⟩ := h
      obtain rfl := nil_of_len (hlen.trans rfl)
      unfold okL at h5
      rw [Bool.and_eq_true, decide_eq_true_eq] at h5
      rw [if_pos rfl]
      unfold readS
      rw [List.append_assoc, readF_num L.length (by omega)]
      simp only
      rw [if_neg (by omega), List.drop_left' (numB_length _), readT_txts L (okS_at h5.2) L.length (Nat.le_refl _) t L.length (Nat.le_refl _)]
      simp only
      rw [List.take_length, List.length_append, numB_length]
theorem frB_ne (f : Fr) : (frB f).length ≠ 0 := by unfold frB; simp
theorem frB_first (f : Fr) : ith (frB f) 0 = f.k := by unfold frB; simp [ith]
theorem parse_fr {f : Fr} (ff : f.Fit) (h : frOk f = true) : parseF (frB f) = some f := by
  unfold frOk at h
  rw [Bool.and_eq_true, decide_eq_true_eq] at h
  unfold parseF
  rw [if_neg (by have := frB_ne f; omega), frB_first]
  have hr := readR_fr ff h.1 []
  rw [List.append_nil] at hr
  rw [hr]
  simp only [if_true]
end Go.Proofs.Ytfaojjleapenaab
namespace Go
namespace Ytfaojjleapenaab
open RowKit
def HeldI (base : Nat) (w : World) (v : Value) (n : Nat) (F : List Int) : Prop := ∀ wx : World, (∀ k, base ≤ k → k < w.heap.size → wx.heap[k]? = w.heap[k]?) → w.heap.size ≤ wx.heap.size → RdI wx v n F
theorem heldI_nil (base : Nat) (w : World) : HeldI base w (.slice none 0 0) 0 [] := fun _ _ _ => .inl ⟨none, 0, rfl, fun _ => rfl, rfl, rfl⟩
theorem heldI_mono {base : Nat} {w w' : World} {v : Value} {n : Nat} {F : List Int} (h : HeldI base w v n F) (hb : Below w.heap.size w w') : HeldI base w' v n F := fun wx h1 h2 =>
  h wx (fun k k1 k2 => (h1 k k1 (Nat.lt_of_lt_of_le k2 hb.size)).trans (hb.block k k2)) (Nat.le_trans hb.size h2)
theorem heldI_lower {base B : Nat} {w : World} {v : Value} {n : Nat} {F : List Int} (h : HeldI B w v n F) (hb : base ≤ B) : HeldI base w v n F := fun wx h1 h2 => h wx (fun k k1 k2 => h1 k (Nat.le_trans hb k1) k2) h2
end Ytfaojjleapenaab
end Go
namespace Go.Proofs.Ytfaojjleapenaab
open Go.RowKit Go.Ytfaojjleapenaab
set_option linter.unusedVariables false
theorem heldI_row {w : World} {g : Nat} {F : List Int} {E : TypeId} (hg : w.heap[g]? = some (.cells (u8s F) E (0, 0))) (n : Nat) (hF : F.length = 32 * n) (hn : n ≤ 1000000) {B : Nat} (hB : B ≤ g) : HeldI B w (.slice (some ⟨g, 0, none⟩) n n) n F := fun wx h1 h2 =>
  rdI_row ((h1 g hB (Array.getElem?_eq_some_iff.1 hg).1).trans hg) n hF hn
end Go.Proofs.Ytfaojjleapenaab
namespace Go
namespace Ytfaojjleapenaab
open RowKit
/-- The value 'v' is a slice of slices of bytes that reads as' 'L'. -/
def RdS (w : World) (v : Value) (L : List (List Int)) : Prop :=
  (∃ a c, v = .slice a 0 c ∧ (a = none → c = 0) ∧ L = []) ∨ ∃ b o c, v = .slice (some ⟨b, o, none⟩) L.length c ∧ L.length ≤ c ∧ c ≤ maxLen ∧ b < w.heap.size ∧ ∀ i, i < L.length → ∃ s, w.cell? ⟨b, o + i, none⟩ = some s ∧ RdB w s (nthL L i)
theorem RdS.mono {w w' : World} {v : Value} {L : List (List Int)} (h : RdS w v L) (hb : Below w.heap.size w w') : RdS w' v L := by
  rcases h with h | ⟨b, o, c, hv, h1, h2, h3, h4⟩
  · exact .inl h
  · refine .inr ⟨b, o, c, hv, h1, h2, Nat.lt_of_lt_of_le h3 hb.size, fun i hi => ?_⟩
    obtain ⟨s, hs, hr⟩ := h4 i hi
    exact ⟨s, (hb.cell (p := (⟨b, o + i, none⟩ : Addr)) h3).trans hs, hr.mono hb⟩
theorem RdS.slice {w : World} {v : Value} {L : List (List Int)} (h : RdS w v L) : ∃ a c, v = .slice a L.length c := by
  rcases h with ⟨a, c, rfl, _, rfl⟩ | ⟨b, o, c, hv, _⟩
  · exact ⟨a, c, rfl⟩
  · exact ⟨_, c, hv⟩
theorem RdS.at {w : World} {a : Option Addr} {n c : Nat} {L : List (List Int)} (h : RdS w (.slice a n c) L) (i : Nat) (hi : i < L.length) : ∃ b o, a = some ⟨b, o, none⟩ ∧ b < w.heap.size ∧ ∃ s, w.cell? ⟨b, o + i, none⟩ = some s ∧ RdB w s (nthL L i) := by
  rcases h with ⟨_, _, _, _, rfl⟩ | ⟨b, o, c', hv, h1, h2, h3, h4⟩
  · exact absurd hi (Nat.not_lt_zero _)
  · cases hv
    exact ⟨b, o, rfl, h3, h4 i hi⟩
theorem RdS.nil (w : World) : RdS w (.slice none 0 0) [] := .inl ⟨none, 0, rfl, fun _ => rfl, rfl⟩
/-- The value reads as' these strings in every world that has kept the blocks from 'base' on. -/
def HeldS (base : Nat) (w : World) (v : Value) (L : List (List Int)) : Prop := ∀ wx : World, (∀ k, base ≤ k → k < w.heap.size → wx.heap[k]? = w.heap[k]?) → w.heap.size ≤ wx.heap.size → RdS wx v L
theorem heldS_nil (base : Nat) (w : World) : HeldS base w (.slice none 0 0) [] := fun wx _ _ => RdS.nil wx
theorem heldS_mono {base : Nat} {w w' : World} {v : Value} {L : List (List Int)} (h : HeldS base w v L) (hb : Below w.heap.size w w') : HeldS base w' v L := fun wx h1 h2 =>
  h wx (fun k k1 k2 => (h1 k k1 (Nat.lt_of_lt_of_le k2 hb.size)).trans (hb.block k k2)) (Nat.le_trans hb.size h2)
theorem heldS_lower {base B : Nat} {w : World} {v : Value} {L : List (List Int)} (h : HeldS B w v L) (hb : base ≤ B) : HeldS base w v L := fun wx h1 h2 => h wx (fun k k1 k2 => h1 k (Nat.le_trans hb k1) k2) h2
theorem heldS_rd {base : Nat} {w : World} {v : Value} {L : List (List Int)} (h : HeldS base w v L) : RdS w v L := h w (fun _ _ _ => rfl) (Nat.le_refl _)
theorem heldI_rd {base : Nat} {w : World} {v : Value} {n : Nat} {F : List Int} (h : HeldI base w v n F) : RdI w v n F := h w (fun _ _ _ => rfl) (Nat.le_refl _)
theorem owns_kept {base : Nat} {e : TypeId} {size : Nat} {w w' : World} {v : Value} {n : Nat} {xs : List Value} (h : w.ownsRow base e size v n xs) (hb : Below w.heap.size w w') : w'.ownsRow base e size v n xs := by
  refine ⟨h.1, ?_⟩
  rcases h.2 with hn | ⟨g, cap, cur, rfl, hbg, hg, rest⟩
  · exact .inl hn
  · exact .inr ⟨g, cap, cur, rfl, hbg, (hb.block g (Array.getElem?_eq_some_iff.1 hg).1).trans hg, rest⟩
theorem owns_same {base : Nat} {e : TypeId} {size : Nat} {w w' : World} {v : Value} {n : Nat} {xs : List Value} (h : w.ownsRow base e size v n xs) (h1 : ∀ k, base ≤ k → k < w.heap.size → w'.heap[k]? = w.heap[k]?) : w'.ownsRow base e size v n xs := by
  refine ⟨h.1, ?_⟩
  rcases h.2 with hn | ⟨g, cap, cur, rfl, hbg, hg, rest⟩
  · exact .inl hn
  · exact .inr ⟨g, cap, cur, rfl, hbg, (h1 g hbg (Array.getElem?_eq_some_iff.1 hg).1).trans hg, rest⟩
theorem owns_ne {w : World} {B B' : Nat} {e e' : TypeId} {z z' n n' : Nat} {v v' : Value} {xs xs' : List Value} (h : w.ownsRow B e z v n xs) (h' : w.ownsRow B' e' z' v' n' xs') (hne : e ≠ e') : v.ownBlock = none ∨ v.ownBlock ≠ v'.ownBlock := by
  rcases h.2 with ⟨rfl, _⟩ | ⟨g, cap, cur, rfl, _, hg, _⟩
  · exact .inl rfl
  · refine .inr fun heq => ?_
    rcases h'.2 with ⟨rfl, _⟩ | ⟨g', cap', cur', rfl, _, hg', _⟩
    · cases heq
    · obtain rfl : g = g' := Option.some.inj heq
      rw [hg] at hg'
      cases hg'
      exact hne rfl
/-- A slice of strings that is the call's own, each string too. -/
def OwnL (B : Nat) (T8 TS : TypeId) (w : World) (v : Value) (L : List (List Int)) : Prop :=
  ∃ vs : List Value, vs.length = L.length ∧ w.ownsRow B TS 1 v vs.length vs ∧ ∀ i, i < L.length → ∃ s, vs[i]? = some s ∧ OwnB B T8 w s (nthL L i)
theorem OwnL.nil (w : World) (B : Nat) (T8 TS : TypeId) : OwnL B T8 TS w (.slice none 0 0) [] := ⟨[], rfl, World.ownsRow_nil w B TS 1, fun i hi => absurd hi (Nat.not_lt_zero _)⟩
theorem OwnL.rd {B : Nat} {T8 TS : TypeId} {w : World} {v : Value} {L : List (List Int)} (h : OwnL B T8 TS w v L) : RdS w v L := by
  obtain ⟨vs, hl, ho, hs⟩ := h
  rcases ho.2 with ⟨rfl, h0⟩ | ⟨g, cap, cur, rfl, hb, hg, hn, hm, hz, ht⟩
  · exact .inl ⟨none, 0, rfl, fun _ => rfl, List.eq_nil_of_length_eq_zero (hl.symm.trans h0)⟩
  · refine .inr ⟨g, 0, cap, by rw [hl], by omega, hm, (Array.getElem?_eq_some_iff.1 hg).1, fun i hi => ?_⟩
    obtain ⟨s, h1, h2⟩ := hs i hi
    have hcell := World.ownsRow.cells (g := g) ho rfl i s h1
    rw [addr_add] at hcell
    exact ⟨s, hcell, h2.rd⟩
theorem OwnL.kept {B : Nat} {T8 TS : TypeId} {w w' : World} {v : Value} {L : List (List Int)} (h : OwnL B T8 TS w v L) (hb : Below w.heap.size w w') : OwnL B T8 TS w' v L := by
  obtain ⟨vs, hl, ho, hs⟩ := h
  refine ⟨vs, hl, owns_kept ho hb, fun i hi => ?_⟩
  obtain ⟨s, h1, h2⟩ := hs i hi
  exact ⟨s, h1, h2.kept hb⟩
theorem OwnL.mono {B B' : Nat} {T8 TS : TypeId} {w : World} {v : Value} {L : List (List Int)} (h : OwnL B T8 TS w v L) (hB : B' ≤ B) : OwnL B' T8 TS w v L := by
  obtain ⟨vs, hl, ho, hs⟩ := h
  refine ⟨vs, hl, ⟨ho.1, ?_⟩, fun i hi => ?_⟩
  · rcases ho.2 with hn | ⟨g, cap, cur, rfl, hbg, rest⟩
    · exact .inl hn
    · exact .inr ⟨g, cap, cur, rfl, Nat.le_trans hB hbg, rest⟩
  · obtain ⟨s, h1, h2⟩ := hs i hi
    exact ⟨s, h1, h2.mono hB⟩
theorem OwnL.held {B : Nat} {T8 TS : TypeId} {w : World} {v : Value} {L : List (List Int)} (h : OwnL B T8 TS w v L) : HeldS B w v L := fun wx h1 _ => by
  obtain ⟨vs, hl, ho, hs⟩ := h
  refine OwnL.rd (B := B) (T8 := T8) (TS := TS) ⟨vs, hl, owns_same ho h1, fun i hi => ?_⟩
  obtain ⟨s, k1, k2⟩ := hs i hi
  exact ⟨s, k1, owns_same k2 h1⟩
theorem OwnL.below {B : Nat} {T8 TS : TypeId} {w w' : World} {v : Value} {L : List (List Int)} (h : OwnL B T8 TS w v L) (hg : w.grownBy w' v.ownBlock) (hb : B ≤ w.heap.size) : Below B w w' := by
  obtain ⟨vs, hl, ho, hs⟩ := h
  exact Below.grown (Below.refl B w) hg hb (fun k hk => (World.ownsRow.lt ho k hk).1)
theorem OwnL.slice {B : Nat} {T8 TS : TypeId} {w : World} {v : Value} {L : List (List Int)} (h : OwnL B T8 TS w v L) : ∃ a c, v = .slice a L.length c := h.rd.slice
section
variable {P : Program}
theorem appendG {ops : Array Oper} {rest : List Oper} {o : Oper} {a : Act} {w : World} {Q : Exit → Act → World → Prop} (hgd : o.guard = none) (s x : Operand) (t : TypeId)
    (ho : o.op = .call { callee := .builtin .append, args := #[s, x], argTypes := #[t, t] })
    (B : Nat) (e : TypeId) (S bytes : Nat) (z : Value) (ht : P.underlying t = some (.slice e)) (hinfo : (P.info? e).map (fun i => (i.zero, i.size, i.bytes)) = some (some z, S, bytes)) (hzs : z.cells.size = S) (hS : 0 < S) (hby : bytes ≤ 1000)
    (v : Value) (hs : a.eval s = v) (n : Nat) (xs : List Value) (hown : w.ownsRow B e S v n xs) (g m c : Nat) (hx : a.eval x = .slice (some ⟨g, 0, none⟩) m c) (news : Array Value) (hnl : news.size = m * S) (E : TypeId) (hrow : w.heap[g]? = some (.cells news E (0, 0)))
    (h1 : news.all (·.oneCell') = true) (hlen : n + m ≤ 1000000) (hbase : B ≤ w.heap.size)
    (h : ∀ v' w', w'.ownsRow B e S v' (n + m) (xs ++ news.toList) → w.grownBy w' v.ownBlock → Below B w w' → Stop (wpList P ops Q rest (a.put o.dst v') w')) : wpList P ops Q (o :: rest) a w := by
  refine wpList_plain hgd fun K hK => ?_
  obtain ⟨i, hi, hz, hsz, hb⟩ := info_parts hinfo
  obtain ⟨v', w', hrun, h2, h3, _⟩ := run_append_own (P := P) w B t o.type e i z S bytes ht hi hz hsz hb hzs hS v n xs hown ⟨g, 0, none⟩ m c news.toList
    (by rw [Array.length_toList]; exact hnl) (fun j u hu => by
      rw [addr_add, Nat.zero_add, cell_of_row _ _ _ _ _ _ hrow, ← Array.getElem?_toList]; exact hu) (fun u hu => by
      rw [Array.all_eq_true'] at h1
      exact h1 u (Array.mem_toList_iff.1 hu)) (by unfold maxLen; omega) (Nat.le_trans (Nat.mul_le_mul hlen hby) (by decide)) hbase
  unfold Oper.wp execOp
  simp only [ho, resolve, invoke, builtin, Sem.run_bind, Sem.run_pure, Result.andThen_ok, List.map_toArray, List.map_cons, List.map_nil, hs, hx, hrun]
  exact hK _ _ (h v' w' h2 h3 (Below.grown (Below.refl B w) h3 hbase (fun k hk => (World.ownsRow.lt hown k hk).1))).out
end
end Ytfaojjleapenaab
end Go
namespace Go.Proofs.Ytfaojjleapenaab
open Go.RowKit Go.Ytfaojjleapenaab
set_option linter.unusedVariables false
theorem rowB {B : Nat} {w w' : World} {g : Nat} {b : Obj} (h : w.heap[g]? = some b) (hb : Below B w w') (hg : g < B) : w'.heap[g]? = some b := by
  rw [hb.block g hg]; exact h
theorem below_a (w : World) (o : Obj) : Below w.heap.size w (w.alloc o) := (Below.refl _ _).alloc (Nat.le_refl _) o
theorem hasNumber_any (k : Int) (w : World) :
    Calls Try.prog 29 #[.int .u8 k] w fun e w' => e = .returned (.bool (numK k)) ∧ w = w' := by
  by_cases h1 : k = 1
  · subst h1
    go_enter Try.func29, Try.ntmps29
    go_wp2
    go_ret
    exact ⟨rfl, rfl⟩
  · by_cases h6 : k = 6
    · subst h6
      go_enter Try.func29, Try.ntmps29
      go_wp2
      go_ret
      exact ⟨rfl, rfl⟩
    · have e := Lib.hid (show numK k = (k == 1 || k == 6) from rfl)
      generalize numK k = R at *
      go_enter Try.func29, Try.ntmps29
      go_wp2
      go_ret
      exact ⟨ret_bool e.out.symm, rfl⟩
theorem hasIDs_any (k : Int) (w : World) :
    Calls Try.prog 21 #[.int .u8 k] w fun e w' => e = .returned (.bool (idsK k)) ∧ w = w' := by
  by_cases h1 : k = 2 ∨ k = 3 ∨ k = 4
  · rcases h1 with rfl | rfl | rfl
    all_goals
      go_enter Try.func21, Try.ntmps21
      go_wp2
      go_ret
      exact ⟨rfl, rfl⟩
  · have k2 : ¬ k = 2 := fun h => h1 (.inl h)
    have k3 : ¬ k = 3 := fun h => h1 (.inr (.inl h))
    have k4 : ¬ k = 4 := fun h => h1 (.inr (.inr h))
    have e := Lib.hid (show idsK k = (k == 2 || k == 3 || k == 4) by rw [Bool.or_assoc]; rfl)
    generalize idsK k = R at *
    clear h1
    go_enter Try.func21, Try.ntmps21
    go_wp2
    go_ret
    exact ⟨ret_bool e.out.symm, rfl⟩
set_option maxRecDepth 100000 in
theorem frIncrease_any (F : List Int) (n : Nat) (v : Value) (w : World) (hr : RdI w v n F) (hF : Bytes F) (hn : n ≤ 100000) :
    Calls Try.prog 22 #[v] w fun e w' => e = .returned (.bool (riseF F n)) ∧ Below w.heap.size w w' := by
  have hlen := Lib.hid hr.len
  obtain ⟨a, c, rfl⟩ := hr.slice
  have hr' := Lib.hid hr; have hF' := Lib.hid hF
  clear hr hF
  go_enter Try.func22, Try.ntmps22
  go_wp2
  go_loopw [7] (fun i wr => ∃ k : Nat, (k = 0 ∨ k + 1 ≤ n) ∧ i = .int .i64 k ∧ Below w.heap.size w wr ∧ ∀ j, j < k → cmpF (idF F j) (idF F (j + 1)) < 0) (fun i _ => n - (intOf i).toNat)
  case atStart => exact ⟨0, .inl rfl, rfl, Below.refl _ _, fun j hj => absurd hj (Nat.not_lt_zero _)⟩
  case round =>
    obtain ⟨k, hk, rfl, hb, he⟩ := hrel
    have he' := Lib.hid he; have hb' := Lib.hid hb
    clear he hb
    by_cases hlt : k + 1 < n
    · obtain ⟨b, o, rfl, hbw, hnc, q1, _⟩ := rdI_at hr'.out hb'.out k (by omega)
      obtain ⟨b2, o2, hab, _, _, q2, _⟩ := rdI_at hr'.out hb'.out (k + 1) hlt
      cases hab
      have q1' := Lib.hid q1; have q2' := Lib.hid q2
      have l1 := Lib.hid (idF_length F n k hlen.out (by omega))
      have l2 := Lib.hid (idF_length F n (k + 1) hlen.out hlt)
      have hc := Lib.hid (fun wi => cmp_any (idF F k) (idF F (k + 1)) wi l1.out l2.out (idF_bytes F k hF'.out) (idF_bytes F (k + 1) hF'.out))
      have hno := Lib.hid (fun h => rise_no (F := F) (n := n) k hlt h)
      have hyes := Lib.hid (fun (h : cmpF (idF F k) (idF F (k + 1)) < 0) => (show ∀ j, j < k + 1 → cmpF (idF F j) (idF F (j + 1)) < 0 from fun j hj => by
        rcases Nat.lt_or_ge j k with h1 | h1
        · exact he'.out j h1
        · obtain rfl : j = k := by omega
          exact h))
      clear q1 q2 he' hk
      generalize idF F (k + 1) = B at *
      generalize idF F k = A at *
      generalize cmpF A B = T at *
      have x1 : IntKind.i64.wrap ((k : Int) + 1) = (k : Int) + 1 := IntWalk.i64_in _ (by omega)
      have x2 : (0 : Int) ≤ (k : Int) + 1 := by omega
      have x3 : ((k : Int) + 1).toNat = k + 1 := by omega
      have x4 : (k : Int) + 1 < (n : Int) := by omega
      have x5 : k < n := by omega
      have i1 : Hid ((Try.prog.info? 47).map (·.size) = some (idV A).length) := Lib.hid (by rw [idV_length, l1.out]; kernel_rfl)
      have i2 : Hid ((Try.prog.info? 47).map (·.size) = some (idV B).length) := Lib.hid (by rw [idV_length, l2.out]; kernel_rfl)
      go_wp2
      refine wp_region_headN (C := fun w' => ∃ n, w' = wr.drewN n) 9 [] (by kernel_rfl) (by kernel_rfl) ⟨1, rfl⟩ ?_
      simp only [List.take_succ_cons, List.take_zero, List.drop_succ_cons, List.drop_zero]
      iterate 3 (refine head_walk (by rfl) (fun K hK => ?_); go_simp; refine hK _ ?_; clear hK K)
      refine head_step (.agg (u8s A)) (by rfl) (qa_load_mid 47 _ rfl b (o + k * 32) rfl A _ Try.underlying47 rfl i1.out (fun w' ⟨n, h⟩ => h ▸ range_drewN q1'.out n)) (by rfl) rfl (fun K hK => ?_)
      go_simp
      refine hK _ ?_
      clear hK K
      iterate 4 (refine head_walk (by rfl) (fun K hK => ?_); go_simp; refine hK _ ?_; clear hK K)
      refine head_step (.agg (u8s B)) (by rfl) (qa_load_mid 47 _ rfl b (o + (k + 1) * 32) rfl B _ Try.underlying47 rfl i2.out (fun w' ⟨n, h⟩ => h ▸ range_drewN q2'.out n)) (by rfl) rfl (fun K hK => ?_)
      go_simp
      refine hK _ ?_
      clear hK K
      refine head_nil ?_
      rintro w' ⟨nz, rfl⟩
      clear x1 x2 x3 x4
      have hbz := Lib.hid (((Draws.refl wr).drewN nz).below hb'.out)
      go_wp2_with (go_at_call 36; (with_reducible refine (hc.out _).mono ?_); rintro e w2 ⟨rfl, hb2⟩; have hB2 := Lib.hid (hbz.out.trans (hb2.mono hbz.out.size)); clear hb2)
      refine NoPanic.normal ?_
      by_cases hT : T < 0
      · have hh := Lib.hid (hyes.out hT)
        go_wp2
        go_roundw
        case rel => exact ⟨k + 1, .inr (by omega), by go_num, hB2.out, hh.out⟩
        case measure => simp [intOf]; omega
      · have hh := Lib.hid (hno.out (by omega))
        go_wp2
        go_ret
        exact ⟨ret_bool hh.out.symm, hB2.out⟩
    · have hh := Lib.hid (rise_yes (F := F) (n := n) (fun i hi => he'.out i (by rcases hk with h | h <;> omega)))
      have hk' : ¬ (k : Int) < (n : Int) - 1 := by omega
      go_wp2
      go_ret
      exact ⟨ret_bool hh.out.symm, hb'.out⟩
set_option maxRecDepth 100000 in
theorem validStrings_any (L : List (List Int)) (v : Value) (w : World) (hr : RdS w v L) (hn : L.length ≤ 100000) :
    Calls Try.prog 38 #[v] w fun e w' => e = .returned (.bool (okL L)) ∧ w = w' := by
  obtain ⟨a, c, rfl⟩ := hr.slice
  have hr' := Lib.hid hr
  clear hr
  by_cases h8 : 8 < L.length
  · have e := Lib.hid (show okL L = false by unfold okL; rw [decide_eq_false (by omega)]; rfl)
    generalize okL L = R at *
    generalize L.length = n at *
    clear hr'
    go_enter Try.func38, Try.ntmps38
    go_wp2
    go_ret
    exact ⟨ret_bool e.out.symm, rfl⟩
  · have hyes := Lib.hid (fun h : okS L = true => (show okL L = true by unfold okL; rw [decide_eq_true (by omega), h]; rfl))
    have hno := Lib.hid (fun h : okS L = false => (show okL L = false by unfold okL; rw [h, Bool.and_false]))
    generalize okL L = R at *
    go_enter Try.func38, Try.ntmps38
    go_wp2
    go_loopw [10] (fun i wr => ∃ k : Nat, k ≤ L.length ∧ i = .int .i64 k ∧ w = wr ∧ ∀ j, j < k → (nthL L j).length ≤ 400) (fun i _ => L.length - (intOf i).toNat)
    case atStart => exact ⟨0, Nat.zero_le _, rfl, by trivial, fun j hj => absurd hj (Nat.not_lt_zero _)⟩
    case round =>
      obtain ⟨k, hk, rfl, rfl, he⟩ := hrel
      have he' := Lib.hid he
      clear he
      by_cases hlt : k < L.length
      · obtain ⟨b, o, rfl, hbw, s, hc, hs⟩ := hr'.out.at k hlt
        obtain ⟨sa, sc, rfl⟩ := hs.slice
        obtain ⟨M, hM⟩ : ∃ M, (nthL L k).length = M := ⟨_, rfl⟩
        have hM' := Lib.hid hM
        rw [hM] at hc
        clear hs hM
        by_cases h4 : M ≤ 400
        · have hh := Lib.hid (show ∀ j, j < k + 1 → (nthL L j).length ≤ 400 from fun j hj => by
            rcases Nat.lt_or_ge j k with h1 | h1
            · exact he'.out j h1
            · obtain rfl : j = k := by omega
              rw [hM'.out]; exact h4)
          go_wp2
          go_roundw
          case rel => exact ⟨k + 1, by omega, by go_num, by trivial, hh.out⟩
          case measure => simp [intOf]; omega
        · have hh := Lib.hid (hno.out (okS_no k (by rw [hM'.out]; omega)))
          go_wp2
          go_ret
          exact ⟨ret_bool hh.out.symm, rfl⟩
      · have hh := Lib.hid (hyes.out (okS_yes (fun i hi => he'.out i (by omega))))
        go_wp2
        go_ret
        exact ⟨ret_bool hh.out.symm, rfl⟩
end Go.Proofs.Ytfaojjleapenaab
namespace Go.Proofs.Ytfaojjleapenaab
open Go.RowKit Go.Ytfaojjleapenaab
set_option linter.unusedVariables false
theorem info_frame : (Try.prog.info? 26).map (·.size) = some 4 := by kernel_rfl
theorem cellsF {w : World} {g : Nat} {f : Fr} {iv ov : Value} (h : w.heap[g]? = some (.cells (f.c iv ov) 26 (0, 0))) :
    w.cell? ⟨g, 0, none⟩ = some (.int .u8 f.k) ∧ w.cell? ⟨g, 1, none⟩ = some (.int .u64 (f.N : Int)) ∧ w.cell? ⟨g, 2, none⟩ = some iv ∧ w.cell? ⟨g, 3, none⟩ = some ov :=
  ⟨cell_of_row _ _ _ _ _ _ h, cell_of_row _ _ _ _ _ _ h, cell_of_row _ _ _ _ _ _ h, cell_of_row _ _ _ _ _ _ h⟩
theorem parts_num {f : Fr} (h : numK f.k = true) : partsB f = (decide (f.n = 0) && decide (f.L.length = 0)) := if_pos h
theorem parts_ids {f : Fr} (h : numK f.k = false) (h2 : idsK f.k = true) : partsB f = (decide (f.N = 0) && (decide (f.L.length = 0) && (decide (f.n ≤ 40) && riseF f.F f.n))) := by
  unfold partsB
  rw [if_neg (by rw [h]; decide), if_pos h2]
theorem parts_ops {f : Fr} (h : numK f.k = false) (h2 : idsK f.k = false) : partsB f = (decide (f.k = 5) && (decide (f.N = 0) && (decide (f.n = 0) && okL f.L))) := by
  unfold partsB
  rw [if_neg (by rw [h]; decide), if_neg (by rw [h2]; decide)]
set_option maxHeartbeats 2000000 in
set_option maxRecDepth 100000 in
theorem validParts_any (f : Fr) (ff : f.Fit) (iv ov : Value) (w : World) (hi : RdI w iv f.n f.F) (ho : RdS w ov f.L) :
    Calls Try.prog 26 #[.agg (f.c iv ov)] w fun e w' => e = .returned (.bool (partsB f)) ∧ Below w.heap.size w w' := by
  obtain ⟨W, hW⟩ : ∃ W, W = w.alloc (.cells (f.c iv ov) 26) := ⟨_, rfl⟩
  have hr0 := heap_alloc_new w (.cells (f.c iv ov) 26)
  have hb0 := (Below.refl w.heap.size w).alloc (Nat.le_refl _) (.cells (f.c iv ov) 26)
  rw [← hW] at hr0 hb0
  obtain ⟨ia, ic, rfl⟩ := hi.slice
  obtain ⟨oa, oc, rfl⟩ := ho.slice
  obtain ⟨c0, c1, c2, c3⟩ := cellsF hr0
  have hb1 := Lib.hid hb0
  have hI := Lib.hid (frIncrease_any f.F f.n _ W (hi.mono hb0) ff.F ff.n)
  have hS := Lib.hid (validStrings_any f.L _ W (ho.mono hb0) ff.l)
  have hK := Lib.hid (fun wz => hasNumber_any f.k wz)
  have hD := Lib.hid (fun wz => hasIDs_any f.k wz)
  have p1 := Lib.hid (fun h => parts_num (f := f) h)
  have p2 := Lib.hid (fun h h2 => parts_ids (f := f) h h2)
  have p3 := Lib.hid (fun h h2 => parts_ops (f := f) h h2)
  clear hr0 hb0 hi ho ff
  generalize partsB f = R at *
  generalize riseF f.F f.n = RB at *
  generalize okL f.L = OK at *
  obtain ⟨k, N, n, F, L⟩ := f
  dsimp only at *
  generalize L.length = m at *
  cases hk : numK k
  · rw [hk] at hK
    replace p2 := Lib.hid (p2.out hk)
    replace p3 := Lib.hid (p3.out hk)
    cases hd : idsK k
    · rw [hd] at hD
      replace p3 := Lib.hid (p3.out hd)
      clear p1 p2 hk hd
      by_cases h5 : k = 5
      · subst h5
        by_cases hN : N = 0
        · subst hN
          by_cases hn : n = 0
          · subst hn
            have e := Lib.hid (show R = OK by rw [p3.out]; simp)
            clear p3
            go_enter Try.func26, Try.ntmps26
            go_upto_region 1 with fail
            rw [← hW]
            clear hW
            go_wp2_with (first
              | (go_at_call 29; (with_reducible refine (hK.out _).mono ?_); rintro e w2 ⟨rfl, rfl⟩)
              | (go_at_call 21; (with_reducible refine (hD.out _).mono ?_); rintro e w2 ⟨rfl, rfl⟩)
              | (go_at_call 38; (with_reducible refine (hS.out).mono ?_); rintro e w2 ⟨rfl, rfl⟩)
              | (go_at_call 22; (with_reducible refine (hI.out).mono ?_); rintro e w3 ⟨rfl, h3⟩; replace hb1 := Lib.hid (hb1.out.trans (Below.mono h3 hb1.out.size)); clear h3))
            go_ret
            exact ⟨ret_bool (by first | exact e.out.symm | (rw [e.out]; simp <;> omega)), hb1.out⟩
          · have e := Lib.hid (show R = false by rw [p3.out, decide_eq_false hn]; simp)
            clear p3
            go_enter Try.func26, Try.ntmps26
            go_upto_region 1 with fail
            rw [← hW]
            clear hW
            go_wp2_with (first
              | (go_at_call 29; (with_reducible refine (hK.out _).mono ?_); rintro e w2 ⟨rfl, rfl⟩)
              | (go_at_call 21; (with_reducible refine (hD.out _).mono ?_); rintro e w2 ⟨rfl, rfl⟩)
              | (go_at_call 38; (with_reducible refine (hS.out).mono ?_); rintro e w2 ⟨rfl, rfl⟩)
              | (go_at_call 22; (with_reducible refine (hI.out).mono ?_); rintro e w3 ⟨rfl, h3⟩; replace hb1 := Lib.hid (hb1.out.trans (Below.mono h3 hb1.out.size)); clear h3))
            go_ret
            exact ⟨ret_bool (by first | exact e.out.symm | (rw [e.out]; simp <;> omega)), hb1.out⟩
        · have e := Lib.hid (show R = false by rw [p3.out, decide_eq_false hN]; simp)
          clear p3
          go_enter Try.func26, Try.ntmps26
          go_upto_region 1 with fail
          rw [← hW]
          clear hW
          go_wp2_with (first
            | (go_at_call 29; (with_reducible refine (hK.out _).mono ?_); rintro e w2 ⟨rfl, rfl⟩)
            | (go_at_call 21; (with_reducible refine (hD.out _).mono ?_); rintro e w2 ⟨rfl, rfl⟩)
            | (go_at_call 38; (with_reducible refine (hS.out).mono ?_); rintro e w2 ⟨rfl, rfl⟩)
            | (go_at_call 22; (with_reducible refine (hI.out).mono ?_); rintro e w3 ⟨rfl, h3⟩; replace hb1 := Lib.hid (hb1.out.trans (Below.mono h3 hb1.out.size)); clear h3))
          go_ret
          exact ⟨ret_bool (by first | exact e.out.symm | (rw [e.out]; simp <;> omega)), hb1.out⟩
      · have e := Lib.hid (show R = false by rw [p3.out, decide_eq_false h5]; simp)
        clear p3
        go_enter Try.func26, Try.ntmps26
        go_upto_region 1 with fail
        rw [← hW]
        clear hW
        go_wp2_with (first
          | (go_at_call 29; (with_reducible refine (hK.out _).mono ?_); rintro e w2 ⟨rfl, rfl⟩)
          | (go_at_call 21; (with_reducible refine (hD.out _).mono ?_); rintro e w2 ⟨rfl, rfl⟩)
          | (go_at_call 38; (with_reducible refine (hS.out).mono ?_); rintro e w2 ⟨rfl, rfl⟩)
          | (go_at_call 22; (with_reducible refine (hI.out).mono ?_); rintro e w3 ⟨rfl, h3⟩; replace hb1 := Lib.hid (hb1.out.trans (Below.mono h3 hb1.out.size)); clear h3))
        go_ret
        exact ⟨ret_bool (by first | exact e.out.symm | (rw [e.out]; simp <;> omega)), hb1.out⟩
    · rw [hd] at hD
      replace p2 := Lib.hid (p2.out hd)
      clear p1 p3 hk hd
      by_cases hN : N = 0
      · subst hN
        by_cases hm : m = 0
        · subst hm
          by_cases hn : n ≤ 40
          · have e := Lib.hid (show R = RB by rw [p2.out, decide_eq_true hn]; simp)
            clear p2
            go_enter Try.func26, Try.ntmps26
            go_upto_region 1 with fail
            rw [← hW]
            clear hW
            go_wp2_with (first
              | (go_at_call 29; (with_reducible refine (hK.out _).mono ?_); rintro e w2 ⟨rfl, rfl⟩)
              | (go_at_call 21; (with_reducible refine (hD.out _).mono ?_); rintro e w2 ⟨rfl, rfl⟩)
              | (go_at_call 38; (with_reducible refine (hS.out).mono ?_); rintro e w2 ⟨rfl, rfl⟩)
              | (go_at_call 22; (with_reducible refine (hI.out).mono ?_); rintro e w3 ⟨rfl, h3⟩; replace hb1 := Lib.hid (hb1.out.trans (Below.mono h3 hb1.out.size)); clear h3))
            go_ret
            exact ⟨ret_bool (by first | exact e.out.symm | (rw [e.out]; simp <;> omega)), hb1.out⟩
          · have e := Lib.hid (show R = false by rw [p2.out, decide_eq_false hn]; simp)
            clear p2
            go_enter Try.func26, Try.ntmps26
            go_upto_region 1 with fail
            rw [← hW]
            clear hW
            go_wp2_with (first
              | (go_at_call 29; (with_reducible refine (hK.out _).mono ?_); rintro e w2 ⟨rfl, rfl⟩)
              | (go_at_call 21; (with_reducible refine (hD.out _).mono ?_); rintro e w2 ⟨rfl, rfl⟩)
              | (go_at_call 38; (with_reducible refine (hS.out).mono ?_); rintro e w2 ⟨rfl, rfl⟩)
              | (go_at_call 22; (with_reducible refine (hI.out).mono ?_); rintro e w3 ⟨rfl, h3⟩; replace hb1 := Lib.hid (hb1.out.trans (Below.mono h3 hb1.out.size)); clear h3))
            go_ret
            exact ⟨ret_bool (by first | exact e.out.symm | (rw [e.out]; simp <;> omega)), hb1.out⟩
        · have e := Lib.hid (show R = false by rw [p2.out, decide_eq_false hm]; simp)
          clear p2
          go_enter Try.func26, Try.ntmps26
          go_upto_region 1 with fail
          rw [← hW]
          clear hW
          go_wp2_with (first
            | (go_at_call 29; (with_reducible refine (hK.out _).mono ?_); rintro e w2 ⟨rfl, rfl⟩)
            | (go_at_call 21; (with_reducible refine (hD.out _).mono ?_); rintro e w2 ⟨rfl, rfl⟩)
            | (go_at_call 38; (with_reducible refine (hS.out).mono ?_); rintro e w2 ⟨rfl, rfl⟩)
            | (go_at_call 22; (with_reducible refine (hI.out).mono ?_); rintro e w3 ⟨rfl, h3⟩; replace hb1 := Lib.hid (hb1.out.trans (Below.mono h3 hb1.out.size)); clear h3))
          go_ret
          exact ⟨ret_bool (by first | exact e.out.symm | (rw [e.out]; simp <;> omega)), hb1.out⟩
      · have e := Lib.hid (show R = false by rw [p2.out, decide_eq_false hN]; simp)
        clear p2
        go_enter Try.func26, Try.ntmps26
        go_upto_region 1 with fail
        rw [← hW]
        clear hW
        go_wp2_with (first
          | (go_at_call 29; (with_reducible refine (hK.out _).mono ?_); rintro e w2 ⟨rfl, rfl⟩)
          | (go_at_call 21; (with_reducible refine (hD.out _).mono ?_); rintro e w2 ⟨rfl, rfl⟩)
          | (go_at_call 38; (with_reducible refine (hS.out).mono ?_); rintro e w2 ⟨rfl, rfl⟩)
          | (go_at_call 22; (with_reducible refine (hI.out).mono ?_); rintro e w3 ⟨rfl, h3⟩; replace hb1 := Lib.hid (hb1.out.trans (Below.mono h3 hb1.out.size)); clear h3))
        go_ret
        exact ⟨ret_bool (by first | exact e.out.symm | (rw [e.out]; simp <;> omega)), hb1.out⟩
  · rw [hk] at hK
    replace p1 := Lib.hid (p1.out hk)
    clear p2 p3 hk
    by_cases hn : n = 0
    · subst hn
      by_cases hm : m = 0
      · subst hm
        have e := Lib.hid (show R = true by rw [p1.out]; simp)
        clear p1
        go_enter Try.func26, Try.ntmps26
        go_upto_region 1 with fail
        rw [← hW]
        clear hW
        go_wp2_with (first
          | (go_at_call 29; (with_reducible refine (hK.out _).mono ?_); rintro e w2 ⟨rfl, rfl⟩)
          | (go_at_call 21; (with_reducible refine (hD.out _).mono ?_); rintro e w2 ⟨rfl, rfl⟩)
          | (go_at_call 38; (with_reducible refine (hS.out).mono ?_); rintro e w2 ⟨rfl, rfl⟩)
          | (go_at_call 22; (with_reducible refine (hI.out).mono ?_); rintro e w3 ⟨rfl, h3⟩; replace hb1 := Lib.hid (hb1.out.trans (Below.mono h3 hb1.out.size)); clear h3))
        go_ret
        exact ⟨ret_bool (by first | exact e.out.symm | (rw [e.out]; simp <;> omega)), hb1.out⟩
      · have e := Lib.hid (show R = false by rw [p1.out, decide_eq_false hm]; simp)
        clear p1
        go_enter Try.func26, Try.ntmps26
        go_upto_region 1 with fail
        rw [← hW]
        clear hW
        go_wp2_with (first
          | (go_at_call 29; (with_reducible refine (hK.out _).mono ?_); rintro e w2 ⟨rfl, rfl⟩)
          | (go_at_call 21; (with_reducible refine (hD.out _).mono ?_); rintro e w2 ⟨rfl, rfl⟩)
          | (go_at_call 38; (with_reducible refine (hS.out).mono ?_); rintro e w2 ⟨rfl, rfl⟩)
          | (go_at_call 22; (with_reducible refine (hI.out).mono ?_); rintro e w3 ⟨rfl, h3⟩; replace hb1 := Lib.hid (hb1.out.trans (Below.mono h3 hb1.out.size)); clear h3))
        go_ret
        exact ⟨ret_bool (by first | exact e.out.symm | (rw [e.out]; simp <;> omega)), hb1.out⟩
    · have e := Lib.hid (show R = false by rw [p1.out, decide_eq_false hn]; simp)
      clear p1
      go_enter Try.func26, Try.ntmps26
      go_upto_region 1 with fail
      rw [← hW]
      clear hW
      go_wp2_with (first
        | (go_at_call 29; (with_reducible refine (hK.out _).mono ?_); rintro e w2 ⟨rfl, rfl⟩)
        | (go_at_call 21; (with_reducible refine (hD.out _).mono ?_); rintro e w2 ⟨rfl, rfl⟩)
        | (go_at_call 38; (with_reducible refine (hS.out).mono ?_); rintro e w2 ⟨rfl, rfl⟩)
        | (go_at_call 22; (with_reducible refine (hI.out).mono ?_); rintro e w3 ⟨rfl, h3⟩; replace hb1 := Lib.hid (hb1.out.trans (Below.mono h3 hb1.out.size)); clear h3))
      go_ret
      exact ⟨ret_bool (by first | exact e.out.symm | (rw [e.out]; simp <;> omega)), hb1.out⟩
end Go.Proofs.Ytfaojjleapenaab
namespace Go.Proofs.Ytfaojjleapenaab
open Go.RowKit Go.Ytfaojjleapenaab
set_option linter.unusedVariables false
theorem txts_len (L : List (List Int)) (h : ∀ i, (nthL L i).length ≤ 400) : ∀ k, (txts L k).length ≤ 409 * k
  | 0 => by simp [txts]
  | k + 1 => by
    have ih := txts_len L h k
    have h1 := h k
    have h2 := numL_le (nthL L k).length (by omega)
    rw [show txts L (k + 1) = txts L k ++ textB (nthL L k) from rfl, List.length_append, textB_length]
    omega
theorem okL_parts {L : List (List Int)} (h : okL L = true) : L.length ≤ 8 ∧ ∀ i, (nthL L i).length ≤ 400 := by
  unfold okL at h
  rw [Bool.and_eq_true, decide_eq_true_eq] at h
  exact ⟨h.1, okS_at h.2⟩
theorem own_byte (W : World) (x : Int) : OwnB W.heap.size 5 (W.alloc (.cells #[.int .u8 x] 5)) (.slice (some ⟨W.heap.size, 0, none⟩) 1 1) [x] :=
  ownB_row (cs := [x]) (heap_alloc_new W (.cells #[.int .u8 x] 5)) 1 rfl (by decide) (Nat.le_refl W.heap.size)
set_option maxHeartbeats 2000000 in
set_option maxRecDepth 100000 in
theorem write_any (f : Fr) (ff : f.Fit) (hp : partsB f = true) (iv ov : Value) (w : World) (hi : RdI w iv f.n f.F) (ho : RdS w ov f.L) :
    Calls Try.prog 19 #[.agg (f.c iv ov)] w fun e w' => ∃ sv, e = .returned sv ∧ OwnB w.heap.size 5 w' sv (frB f) ∧ Below w.heap.size w w' := by
  obtain ⟨W, hW⟩ : ∃ W, W = w.alloc (.cells (f.c iv ov) 26) := ⟨_, rfl⟩
  have hr0 := heap_alloc_new w (.cells (f.c iv ov) 26)
  have hb0 := (Below.refl w.heap.size w).alloc (Nat.le_refl _) (.cells (f.c iv ov) 26)
  rw [← hW] at hr0 hb0
  obtain ⟨ia, ic, rfl⟩ := hi.slice
  obtain ⟨oa, oc, rfl⟩ := ho.slice
  have hrow := Lib.hid hr0
  have hmids := Lib.hid (fun (wz : World) (h : Below W.heap.size W wz) => (cellsF (rowB hrow.out h (Array.getElem?_eq_some_iff.1 hr0).1)))
  obtain ⟨c0, c1, c2, c3⟩ := cellsF hr0
  have hb1 := Lib.hid hb0
  have hi' := Lib.hid (hi.mono hb0)
  have ho' := Lib.hid (ho.mono hb0)
  have hK := Lib.hid (fun wz => hasNumber_any f.k wz)
  have hD := Lib.hid (fun wz => hasIDs_any f.k wz)
  have ffh := Lib.hid ff
  have p1 := Lib.hid (fun h => (parts_num (f := f) h).symm.trans hp)
  have p2 := Lib.hid (fun h h2 => (parts_ids (f := f) h h2).symm.trans hp)
  have p3 := Lib.hid (fun h h2 => (parts_ops (f := f) h h2).symm.trans hp)
  have hfr := Lib.hid (show frB f = [f.k] ++ (if numK f.k = true then numB f.N else if idsK f.k = true then numB f.n ++ f.F else numB f.L.length ++ txts f.L f.L.length) from rfl)
  have hOw := Lib.hid (own_byte W f.k)
  have hBw := Lib.hid (below_a W (.cells #[.int .u8 f.k] 5))
  clear hr0 hb0 hi ho ff hp
  go_enter Try.func19, Try.ntmps19
  go_upto_region 1 with fail
  rw [← hW]
  clear hW
  go_upto_region 2 with fail
  generalize W.alloc (.cells #[.int .u8 f.k] 5) = W1 at *
  generalize Value.slice (some ⟨W.heap.size, 0, none⟩) 1 1 = sv at *
  obtain ⟨sa, sc, rfl⟩ := own_slice hOw.out 1 rfl
  replace c0 := (hmids.out _ hBw.out).1
  replace c1 := (hmids.out _ hBw.out).2.1
  replace c2 := (hmids.out _ hBw.out).2.2.1
  replace c3 := (hmids.out _ hBw.out).2.2.2
  cases hk : numK f.k
  · rw [hk] at hK hfr
    rw [if_neg (by decide)] at hfr
    replace p2 := Lib.hid (p2.out hk)
    replace p3 := Lib.hid (p3.out hk)
    cases hd : idsK f.k
    · rw [hd] at hD hfr
      rw [if_neg (by decide)] at hfr
      replace p3 := p3.out hd
      rw [Bool.and_eq_true, Bool.and_eq_true, Bool.and_eq_true] at p3
      obtain ⟨hl8, hl4⟩ := okL_parts p3.2.2.2
      have hnu := Lib.hid (fun (wz : World) => number_any f.L.length (by omega) wz)
      have hln := Lib.hid (numL_le f.L.length (by omega))
      have hlt := Lib.hid (txts_len f.L hl4)
      have h4 := Lib.hid hl4
      have hN0 := Lib.hid (numB_length f.L.length)
      have hu6 : IntKind.u64.wrap (f.L.length : Int) = (f.L.length : Int) := IntWalk.u64_in _ (by omega)
      clear p1 p2 p3 hk hd hl4
      generalize hm : f.L.length = m at *
      have hm' := Lib.hid hm
      clear hm
      go_upto_region 7 with (first
        | (go_at_call 29; (with_reducible refine (hK.out _).mono ?_); rintro e w2 ⟨rfl, rfl⟩)
        | (go_at_call 21; (with_reducible refine (hD.out _).mono ?_); rintro e w2 ⟨rfl, rfl⟩))
      go_wp2_with (first
        | (go_at_call 30; (with_reducible refine (hnu.out _).mono ?_); rintro e w4 ⟨rfl, q1, q2⟩; replace hOw := Lib.hid (hOw.out.kept q2); replace hBw := Lib.hid (hBw.out.trans (q2.mono hBw.out.size)); have hr := Lib.hid (rdB_row q1 _ (numB_length _) (Nat.le_trans hln.out (by decide))); clear q1 q2)
        | (refine appendB rfl _ _ 29 rfl W.heap.size 5 Try.underlying29 (by kernel_rfl) _ rfl [f.k] hOw.out _ rfl (numB m) hr.out (by rw [hN0.out, List.length_singleton]; have h1 := hln.out; omega) hBw.out.size ?_))
      intro v5 w5 h1 h2
      replace hBw := Lib.hid (hBw.out.trans (hOw.out.below h2 hBw.out.size))
      clear hOw hr h2 hnu
      have hOw := Lib.hid h1
      clear h1
      refine Stop.go ?_
      have c3 := (hmids.out _ hBw.out).2.2.2
      have hw5 := Lib.hid hBw.out.size
      go_wp2
      go_loopw [3, 45] (fun b i wr => ∃ k : Nat, k ≤ m ∧ i = .int .i64 k ∧ OwnB W.heap.size 5 wr b (([f.k] ++ numB m) ++ txts f.L k) ∧ Below W.heap.size W wr) (fun _ i _ => m - (intOf i).toNat)
      case atStart => exact ⟨0, Nat.zero_le _, rfl, by rw [show txts f.L 0 = [] from rfl, List.append_nil]; exact hOw.out, hBw.out⟩
      case round =>
        obtain ⟨k, hk, rfl, ho, hb⟩ := hrel
        obtain ⟨ba, bc, rfl⟩ := own_slice ho _ rfl
        have ho2 := Lib.hid ho
        have hb2 := Lib.hid hb
        obtain ⟨Z, hZ⟩ : ∃ Z, (([f.k] ++ numB m) ++ txts f.L k).length = Z := ⟨_, rfl⟩
        have hZ' := Lib.hid hZ
        have hZ2 : Z ≤ 4000 := by
          have h1 := hlt.out k
          have h2 := hln.out
          rw [← hZ, List.length_append, List.length_append, List.length_singleton, hN0.out]
          omega
        rw [hZ]
        clear ho hb hZ
        by_cases hlt2 : k < m
        · obtain ⟨b, o, rfl, hbw, s, hc, hs⟩ := ho'.out.at k (by rw [hm'.out]; exact hlt2)
          have hc2 := (hb2.out.cell (p := (⟨b, o + k, none⟩ : Addr)) hbw).trans hc
          have hs2 := Lib.hid (hs.mono hb2.out)
          obtain ⟨qa, qc, rfl⟩ := hs.slice
          have hby := Lib.hid (fun (wz : World) (h : RdB wz (.slice qa (nthL f.L k).length qc) (nthL f.L k)) => bytes_any _ _ wz h (Nat.le_trans (h4.out k) (by decide)))
          have htl := Lib.hid (show (textB (nthL f.L k)).length ≤ 409 by rw [textB_length]; have h1 := h4.out k; have h2 := numL_le (nthL f.L k).length (by omega); omega)
          clear hs hc
          go_wp2_with (first
            | (go_at_call 32; (with_reducible refine (hby.out _ hs2.out).mono ?_); rintro e w6 ⟨g6, rfl, q0, q1, q2⟩; have ho3 := Lib.hid (ho2.out.kept q2); have hb3 := Lib.hid (hb2.out.trans (q2.mono hb2.out.size)); have hr := Lib.hid (rdB_row q1 _ rfl (Nat.le_trans htl.out (by decide))); clear q0 q1 q2)
            | (refine appendB rfl _ _ 29 rfl W.heap.size 5 Try.underlying29 (by kernel_rfl) _ rfl (([f.k] ++ numB m) ++ txts f.L k) (by have h := ho3.out; rw [hZ'.out] at h; exact h) _ rfl (textB (nthL f.L k)) hr.out (by rw [hZ'.out]; have h1 := htl.out; omega) hb3.out.size ?_))
          intro v7 w7 h1 h2
          have hb4 := Lib.hid (hb3.out.trans ((by have h := ho3.out; rw [hZ'.out] at h; exact h : OwnB W.heap.size 5 w6 (.slice ba Z bc) (([f.k] ++ numB m) ++ txts f.L k)).below h2 hb3.out.size))
          have ho4 := Lib.hid (show OwnB W.heap.size 5 w7 v7 (([f.k] ++ numB m) ++ txts f.L (k + 1)) by rw [show (([f.k] ++ numB m) ++ txts f.L (k + 1)) = f.k :: (numB m ++ (txts f.L k ++ textB (nthL f.L k))) by simp [txts]]; exact h1)
          clear h1 h2 ho3 hb3 hr hby hs2
          refine Stop.go ?_
          go_wp2
          go_roundw
          case rel => exact ⟨k + 1, by omega, by go_num, ho4.out, hb4.out⟩
          case measure => simp [intOf]; omega
        · obtain rfl : k = m := by omega
          go_wp2
          go_ret
          exact ⟨_, rfl, by rw [hfr.out, ← List.append_assoc]; have h := ho2.out.mono hb1.out.size; rw [hZ'.out] at h; exact h, hb1.out.trans (hb2.out.mono hb1.out.size)⟩
    · rw [hd] at hD hfr
      rw [if_pos rfl] at hfr
      replace p2 := p2.out hd
      rw [Bool.and_eq_true, Bool.and_eq_true, Bool.and_eq_true, decide_eq_true_eq, decide_eq_true_eq, decide_eq_true_eq] at p2
      obtain ⟨_, _, hn, hri⟩ := p2
      have hid := Lib.hid (fun (wz : World) (h : Below W.heap.size W wz) => ids_ok f.F f.n (.slice ia f.n ic) wz (hi'.out.mono h) ffh.out.F (by omega) hri)
      have hln := Lib.hid (numL_le f.n (by omega))
      have hlF := Lib.hid ffh.out.len
      clear p1 p3 hk hd
      go_wp2_with (first
        | (go_at_call 29; (with_reducible refine (hK.out _).mono ?_); rintro e w2 ⟨rfl, rfl⟩)
        | (go_at_call 21; (with_reducible refine (hD.out _).mono ?_); rintro e w2 ⟨rfl, rfl⟩)
        | (go_at_call 31; (with_reducible refine (hid.out _ hBw.out).mono ?_); rintro e w4 ⟨g4, rfl, q0, q1, q2⟩; replace hOw := Lib.hid (hOw.out.kept q2); replace hBw := Lib.hid (hBw.out.trans (q2.mono hBw.out.size)); have hr := Lib.hid (rdB_row q1 _ (by rw [List.length_append, numB_length, hlF.out]) (by have h1 := hln.out; unfold maxLen; omega)); clear q0 q1 q2)
        | (refine appendB rfl _ _ 29 rfl W.heap.size 5 Try.underlying29 (by kernel_rfl) _ rfl [f.k] hOw.out _ rfl (numB f.n ++ f.F) hr.out (by rw [List.length_append, numB_length, hlF.out, List.length_singleton]; have h1 := hln.out; omega) hBw.out.size ?_))
      intro v5 w5 h1 h2
      replace hBw := Lib.hid (hBw.out.trans (hOw.out.below h2 hBw.out.size))
      refine Stop.go ?_
      go_wp2
      go_ret
      exact ⟨_, rfl, by rw [hfr.out]; exact h1.mono hb1.out.size, hb1.out.trans (hBw.out.mono hb1.out.size)⟩
  · rw [hk] at hK hfr
    rw [if_pos rfl] at hfr
    have hnu := Lib.hid (fun (wz : World) => number_any f.N ffh.out.N wz)
    have hln := Lib.hid (numL_le f.N ffh.out.N)
    clear p1 p2 p3 hk
    go_wp2_with (first
      | (go_at_call 29; (with_reducible refine (hK.out _).mono ?_); rintro e w2 ⟨rfl, rfl⟩)
      | (go_at_call 30; (with_reducible refine (hnu.out _).mono ?_); rintro e w4 ⟨rfl, q1, q2⟩; replace hOw := Lib.hid (hOw.out.kept q2); replace hBw := Lib.hid (hBw.out.trans (q2.mono hBw.out.size)); have hr := Lib.hid (rdB_row q1 _ (numB_length _) (Nat.le_trans hln.out (by decide))); clear q1 q2)
      | (refine appendB rfl _ _ 29 rfl W.heap.size 5 Try.underlying29 (by kernel_rfl) _ rfl [f.k] hOw.out _ rfl (numB f.N) hr.out (by rw [numB_length, List.length_singleton]; have h1 := hln.out; omega) hBw.out.size ?_))
    intro v5 w5 h1 h2
    replace hBw := Lib.hid (hBw.out.trans (hOw.out.below h2 hBw.out.size))
    refine Stop.go ?_
    go_wp2
    go_ret
    exact ⟨_, rfl, by rw [hfr.out]; exact h1.mono hb1.out.size, hb1.out.trans (hBw.out.mono hb1.out.size)⟩
end Go.Proofs.Ytfaojjleapenaab
namespace Go.Proofs.Ytfaojjleapenaab
open Go.RowKit Go.Ytfaojjleapenaab
set_option linter.unusedVariables false
theorem chkR_no {f : Fr} (h : partsB f = false) : chkR f = 8 := by
  unfold chkR frOk
  rw [h]
  rfl
theorem chkR_long {f : Fr} (h : 2000 < (frB f).length) : chkR f = 8 := by
  unfold chkR frOk
  rw [decide_eq_false (by omega), Bool.and_false]
  rfl
theorem chkR_ok {f : Fr} (h : partsB f = true) (h2 : (frB f).length ≤ 2000) : chkR f = 0 := by
  unfold chkR frOk
  rw [h, decide_eq_true h2]
  rfl
set_option maxHeartbeats 2000000 in
set_option maxRecDepth 100000 in
theorem frCheck_any (f : Fr) (ff : f.Fit) (iv ov : Value) (w : World) (hi : RdI w iv f.n f.F) (ho : RdS w ov f.L) :
    Calls Try.prog 11 #[.agg (f.c iv ov)] w fun e w' => e = .returned (.int .i64 (chkR f)) ∧ Below w.heap.size w w' := by
  obtain ⟨W, hW⟩ : ∃ W, W = w.alloc (.cells (f.c iv ov) 26) := ⟨_, rfl⟩
  have hr0 := heap_alloc_new w (.cells (f.c iv ov) 26)
  have hb0 := (Below.refl w.heap.size w).alloc (Nat.le_refl _) (.cells (f.c iv ov) 26)
  rw [← hW] at hr0 hb0
  obtain ⟨ia, ic, rfl⟩ := hi.slice
  obtain ⟨oa, oc, rfl⟩ := ho.slice
  have hlt := (Array.getElem?_eq_some_iff.1 hr0).1
  have hrows := Lib.hid (fun (wz : World) (h : Below W.heap.size W wz) => rowB hr0 h hlt)
  have hb1 := Lib.hid hb0
  have hB := Lib.hid (Below.refl W.heap.size W)
  have hP := Lib.hid (fun (wz : World) (h : Below W.heap.size W wz) => validParts_any f ff _ _ wz ((hi.mono hb0).mono h) ((ho.mono hb0).mono h))
  cases hp : partsB f
  · have e := Lib.hid (chkR_no hp)
    rw [hp] at hP
    generalize chkR f = R at *
    clear hp hr0 hb0 hi ho ff
    go_enter Try.func11, Try.ntmps11
    go_upto_region 1 with fail
    rw [← hW]
    clear hW
    go_wp2_with (first | (refine wpList_load_row_g rfl 26 _ rfl w.heap.size rfl 26 (f.c (.slice ia f.n ic) (.slice oa f.L.length oc)) (0, 0) _ (hrows.out _ hB.out) Try.underlying26 rfl info_frame ?_) | (go_at_call 26; (with_reducible refine (hP.out _ hB.out).mono ?_); rintro e w3 ⟨rfl, h3⟩; replace hB := Lib.hid (hB.out.trans (Below.mono h3 hB.out.size)); clear h3))
    go_ret
    exact ⟨ret_int e.out.symm, hb1.out.trans (hB.out.mono hb1.out.size)⟩
  · have hw := Lib.hid (fun (wz : World) (h : Below W.heap.size W wz) => write_any f ff hp _ _ wz ((hi.mono hb0).mono h) ((ho.mono hb0).mono h))
    have hlong := Lib.hid (fun h => chkR_long (f := f) h)
    have hok := Lib.hid (fun h => chkR_ok (f := f) hp h)
    rw [hp] at hP
    obtain ⟨Z, hZ⟩ : ∃ Z, (frB f).length = Z := ⟨_, rfl⟩
    rw [hZ] at hlong hok
    have hZ' := Lib.hid hZ
    generalize chkR f = R at *
    clear hp hr0 hb0 hi ho ff hZ
    by_cases h2 : 2000 < Z
    · have e := Lib.hid (hlong.out h2)
      go_enter Try.func11, Try.ntmps11
      go_upto_region 1 with fail
      rw [← hW]
      clear hW
      go_wp2_with (first | (refine wpList_load_row_g rfl 26 _ rfl w.heap.size rfl 26 (f.c (.slice ia f.n ic) (.slice oa f.L.length oc)) (0, 0) _ (hrows.out _ hB.out) Try.underlying26 rfl info_frame ?_) | (go_at_call 26; (with_reducible refine (hP.out _ hB.out).mono ?_); rintro e w3 ⟨rfl, h3⟩; replace hB := Lib.hid (hB.out.trans (Below.mono h3 hB.out.size)); clear h3) | (go_at_call 19; (with_reducible refine (hw.out _ hB.out).mono ?_); rintro e w3 ⟨sv, rfl, hO, h3⟩; obtain ⟨sa, sc, rfl⟩ := own_slice hO _ hZ'.out; clear hO; replace hB := Lib.hid (hB.out.trans (Below.mono h3 hB.out.size)); clear h3))
      go_ret
      exact ⟨ret_int e.out.symm, hb1.out.trans (hB.out.mono hb1.out.size)⟩
    · have e := Lib.hid (hok.out (by omega))
      go_enter Try.func11, Try.ntmps11
      go_upto_region 1 with fail
      rw [← hW]
      clear hW
      go_wp2_with (first | (refine wpList_load_row_g rfl 26 _ rfl w.heap.size rfl 26 (f.c (.slice ia f.n ic) (.slice oa f.L.length oc)) (0, 0) _ (hrows.out _ hB.out) Try.underlying26 rfl info_frame ?_) | (go_at_call 26; (with_reducible refine (hP.out _ hB.out).mono ?_); rintro e w3 ⟨rfl, h3⟩; replace hB := Lib.hid (hB.out.trans (Below.mono h3 hB.out.size)); clear h3) | (go_at_call 19; (with_reducible refine (hw.out _ hB.out).mono ?_); rintro e w3 ⟨sv, rfl, hO, h3⟩; obtain ⟨sa, sc, rfl⟩ := own_slice hO _ hZ'.out; clear hO; replace hB := Lib.hid (hB.out.trans (Below.mono h3 hB.out.size)); clear h3))
      go_ret
      exact ⟨ret_int e.out.symm, hb1.out.trans (hB.out.mono hb1.out.size)⟩
theorem chkR_yes {f : Fr} (h : frOk f = true) : chkR f = 0 := if_pos h
theorem chkR_not {f : Fr} (h : frOk f = false) : chkR f = 8 := if_neg (by rw [h]; decide)
theorem frOk_parts {f : Fr} (h : frOk f = true) : partsB f = true ∧ (frB f).length ≤ 2000 := by
  unfold frOk at h
  rw [Bool.and_eq_true, decide_eq_true_eq] at h
  exact h
set_option maxHeartbeats 2000000 in
set_option maxRecDepth 100000 in
theorem frEncode_ok (f : Fr) (ff : f.Fit) (h0 : frOk f = true) (iv ov : Value) (w : World) (hi : RdI w iv f.n f.F) (ho : RdS w ov f.L) :
    Calls Try.prog 7 #[.agg (f.c iv ov)] w fun e w' => ∃ sv, e = .returned (.tuple #[sv, .int .i64 0]) ∧ OwnB w.heap.size 5 w' sv (frB f) ∧ Below w.heap.size w w' := by
  obtain ⟨W, hW⟩ : ∃ W, W = w.alloc (.cells (f.c iv ov) 26) := ⟨_, rfl⟩
  have hr0 := heap_alloc_new w (.cells (f.c iv ov) 26)
  have hb0 := (Below.refl w.heap.size w).alloc (Nat.le_refl _) (.cells (f.c iv ov) 26)
  rw [← hW] at hr0 hb0
  obtain ⟨ia, ic, rfl⟩ := hi.slice
  obtain ⟨oa, oc, rfl⟩ := ho.slice
  have hlt := (Array.getElem?_eq_some_iff.1 hr0).1
  have hrows := Lib.hid (fun (wz : World) (h : Below W.heap.size W wz) => rowB hr0 h hlt)
  have hb1 := Lib.hid hb0
  have hB := Lib.hid (Below.refl W.heap.size W)
  have hC := Lib.hid (fun (wz : World) (h : Below W.heap.size W wz) => frCheck_any f ff _ _ wz ((hi.mono hb0).mono h) ((ho.mono hb0).mono h))
  have hw := Lib.hid (fun (wz : World) (h : Below W.heap.size W wz) => write_any f ff (frOk_parts h0).1 _ _ wz ((hi.mono hb0).mono h) ((ho.mono hb0).mono h))
  rw [chkR_yes h0] at hC
  clear hr0 hb0 hi ho ff h0
  go_enter Try.func7, Try.ntmps7
  go_upto_region 1 with fail
  rw [← hW]
  clear hW
  go_wp2_with (first | (refine wpList_load_row_g rfl 26 _ rfl w.heap.size rfl 26 (f.c (.slice ia f.n ic) (.slice oa f.L.length oc)) (0, 0) _ (hrows.out _ hB.out) Try.underlying26 rfl info_frame ?_) | (go_at_call 11; (with_reducible refine (hC.out _ hB.out).mono ?_); rintro e w3 ⟨rfl, h3⟩; replace hB := Lib.hid (hB.out.trans (Below.mono h3 hB.out.size)); clear h3) | (go_at_call 19; (with_reducible refine (hw.out _ hB.out).mono ?_); rintro e w3 ⟨sv, rfl, hO, h3⟩; replace hO := Lib.hid (hO.mono (Nat.le_trans hb1.out.size hB.out.size)); replace hB := Lib.hid (hB.out.trans (Below.mono h3 hB.out.size)); clear h3))
  go_ret2
  exact ⟨_, rfl, hO.out, hb1.out.trans (hB.out.mono hb1.out.size)⟩
set_option maxHeartbeats 2000000 in
set_option maxRecDepth 100000 in
theorem frEncode_bad (f : Fr) (ff : f.Fit) (h0 : frOk f = false) (iv ov : Value) (w : World) (hi : RdI w iv f.n f.F) (ho : RdS w ov f.L) :
    Calls Try.prog 7 #[.agg (f.c iv ov)] w fun e w' => e = .returned (.tuple #[.slice none 0 0, .int .i64 8]) ∧ Below w.heap.size w w' := by
  obtain ⟨W, hW⟩ : ∃ W, W = w.alloc (.cells (f.c iv ov) 26) := ⟨_, rfl⟩
  have hr0 := heap_alloc_new w (.cells (f.c iv ov) 26)
  have hb0 := (Below.refl w.heap.size w).alloc (Nat.le_refl _) (.cells (f.c iv ov) 26)
  rw [← hW] at hr0 hb0
  obtain ⟨ia, ic, rfl⟩ := hi.slice
  obtain ⟨oa, oc, rfl⟩ := ho.slice
  have hlt := (Array.getElem?_eq_some_iff.1 hr0).1
  have hrows := Lib.hid (fun (wz : World) (h : Below W.heap.size W wz) => rowB hr0 h hlt)
  have hb1 := Lib.hid hb0
  have hB := Lib.hid (Below.refl W.heap.size W)
  have hC := Lib.hid (fun (wz : World) (h : Below W.heap.size W wz) => frCheck_any f ff _ _ wz ((hi.mono hb0).mono h) ((ho.mono hb0).mono h))
  rw [chkR_not h0] at hC
  clear hr0 hb0 hi ho ff h0
  go_enter Try.func7, Try.ntmps7
  go_upto_region 1 with fail
  rw [← hW]
  clear hW
  go_wp2_with (first | (refine wpList_load_row_g rfl 26 _ rfl w.heap.size rfl 26 (f.c (.slice ia f.n ic) (.slice oa f.L.length oc)) (0, 0) _ (hrows.out _ hB.out) Try.underlying26 rfl info_frame ?_) | (go_at_call 11; (with_reducible refine (hC.out _ hB.out).mono ?_); rintro e w3 ⟨rfl, h3⟩; replace hB := Lib.hid (hB.out.trans (Below.mono h3 hB.out.size)); clear h3))
  go_ret2
  exact ⟨rfl, hb1.out.trans (hB.out.mono hb1.out.size)⟩
end Go.Proofs.Ytfaojjleapenaab

/- rises: values that come one after the other. -/
import Derived.Test.YtpklfohaifeboaaV07
import Derived.Deep.MidRow
namespace Go.Proofs.Ytpklfohaifeboaa
open Go.RowKit Go.Ytpklfohaifeboaa
set_option linter.unusedVariables false
theorem quiet_mid {P : Program} {C : World → Prop} {o : Oper} {a : Act} (ty : TypeId) (x : Operand) (ho : o.op = .load ty x) (g k : Nat) (hx : a.eval x = .pointer (some ⟨g, k, none⟩)) (cs : List Value) (d : TypeDesc)
    (hC : ∀ w, C w → w.rangeAt g k cs) (hu : P.underlying ty = some d) (hd : d.isRow = true) (hi : (P.info? ty).map (·.size) = some cs.length) : ∀ w, C w → o.quietAt P a C w (.agg cs.toArray) := by
  intro w hw
  unfold Oper.quietAt execOp
  simp only [ho, hx, Instr.loadAt, Instr.sureAddr, Sem.run_bind, Sem.run_pure, Result.andThen_ok, run_loadVar_mid w g k ty cs d (hC w hw) hu hd hi]
  exact ⟨rfl, rfl⟩
/-- A value. -/
structure Va where
  k : Int
  n : Int
  b : Nat
  s : ByteArray
abbrev Va.l (v : Va) : List Value := [.int .u8 v.k, .int .i64 v.n, .int .u64 (v.b : Int), .string v.s]
abbrev Va.v (v : Va) : Value := vA v.k v.n v.b v.s
abbrev Va.fit (v : Va) : Prop := VFit v.k v.n v.b v.s
abbrev Va.ok (v : Va) : Bool := validB v.k v.n v.b v.s
abbrev Va.cmp (v u : Va) : Int := cmpV v.k v.n v.b v.s u.k u.n u.b u.s
def vaAt (L : List Va) (i : Nat) : Va := L[i]?.getD ⟨0, 0, 0, ⟨#[]⟩⟩
def rowV (L : List Va) : Array Value := (L.flatMap Va.l).toArray
theorem flat_at : ∀ (L : List Va) (i j : Nat), i < L.length → j < 4 → (L.flatMap Va.l)[4 * i + j]? = (vaAt L i).l[j]?
  | v :: L, 0, j, _, hj => by
    rw [List.flatMap_cons, List.getElem?_append_left (by simp; omega)]
    simp [vaAt]
  | v :: L, i + 1, j, h, hj => by
    rw [List.flatMap_cons, List.getElem?_append_right (by simp; omega)]
    have e : 4 * (i + 1) + j - v.l.length = 4 * i + j := by simp; omega
    rw [e, flat_at L i j (by simpa using h) hj]
    simp [vaAt]
theorem range_of_row {w : World} {g : Nat} {L : List Va} {T : TypeId} {fr : Nat × Nat} (h : w.heap[g]? = some (.cells (rowV L) T fr)) (i : Nat) (hi : i < L.length) : w.rangeAt g (i * 4) (vaAt L i).l := by
  intro j v hj
  have hj4 : j < 4 := by
    have := (List.getElem?_eq_some_iff.1 hj).1
    simpa using this
  rw [cell_of_row _ _ _ _ _ _ h, rowV, List.getElem?_toArray, Nat.mul_comm, flat_at L i j hi hj4]
  exact hj
theorem cmpI_anti (a b : Int) : cmpI b a = - cmpI a b := by unfold cmpI; split <;> split <;> omega
theorem cmpI_self (a : Int) : cmpI a a = 0 := by simp [cmpI]
theorem orI_neg (a b : Int) : orI (-a) (-b) = - orI a b := by unfold orI; split <;> split <;> omega
theorem cmpV_anti (u v : Va) : v.cmp u = - u.cmp v := by
  unfold Va.cmp cmpV
  rw [cmpI_anti, cmp_anti, orI_neg]
theorem cmpV_self (u : Va) : u.cmp u = 0 := by
  unfold Va.cmp cmpV
  rw [cmpI_self, cmp_self]; rfl
set_option maxHeartbeats 4000000 in
set_option maxRecDepth 100000 in
theorem rises_any (L : List Va) (g n : Nat) (hn : L.length = n) (hm : n ≤ 1000) (w : World) (T : TypeId) (fr : Nat × Nat) (hrow : w.heap[g]? = some (.cells (rowV L) T fr))
    (hf : ∀ i, i < n → (vaAt L i).fit ∧ (vaAt L i).ok = true) (ha : ∀ i, i + 1 < n → (vaAt L i).cmp (vaAt L (i + 1)) = -1) :
    Calls Try.prog 19 #[.slice (some ⟨g, 0, none⟩) n n] w fun e w' => e = .returned (.bool true) ∧ Below w.heap.size w w' := by
  have hrow' := Lib.hid hrow
  have hcmp := Lib.hid (fun i j (hi : i < n) (hj : j < n) (w : World) => cmp_ok _ _ _ _ _ _ _ _ (hf i hi).1 (hf j hj).1 (hf i hi).2 (hf j hj).2 w)
  have hr := Lib.hid (fun i (hi : i < n) (w' : World) (h : Below w.heap.size w w') => range_of_row (rowB hrow h (Array.getElem?_eq_some_iff.1 hrow).1) i (by omega))
  have ha' := Lib.hid ha
  have hlt := Lib.hid (Array.getElem?_eq_some_iff.1 hrow).1
  clear hrow hf ha hn
  go_enter Try.func19, Try.ntmps19
  go_wp2
  go_loopw [3] (fun i wr => ∃ k : Nat, k ≤ n ∧ i = .int .i64 (k : Int) ∧ Below w.heap.size w wr) (fun i _ => n - (intOf i).toNat)
  case atStart => exact ⟨0, Nat.zero_le _, rfl, Below.refl _ _⟩
  case round =>
    obtain ⟨k, hk, rfl, hb⟩ := hrel
    by_cases hlt2 : k + 1 < n
    · have hb' := Lib.hid hb
      have c12 := Lib.hid (hcmp.out k (k + 1) (by omega) hlt2)
      have c21 := Lib.hid (hcmp.out (k + 1) k hlt2 (by omega))
      have c11 := Lib.hid (hcmp.out k k (by omega) (by omega))
      have e12 := ha'.out k hlt2
      have e21 := cmpV_anti (vaAt L k) (vaAt L (k + 1))
      have e11 := cmpV_self (vaAt L k)
      rw [e12] at e21
      unfold Va.cmp at e12 e21 e11
      rw [e12] at c12; rw [e21] at c21; rw [e11] at c11
      have r1 := Lib.hid (hr.out k (by omega))
      have r2 := Lib.hid (hr.out (k + 1) hlt2)
      generalize vaAt L k = u at *
      generalize vaAt L (k + 1) = v at *
      clear hb ha' hcmp hr e12 e21 e11
      have d1 : ((k : Int) + 1).toNat = k + 1 := by omega
      go_upto_region 4 with fail
      refine wp_region_quiet (C := fun w' => Below w.heap.size w w') (by kernel_rfl) (by kernel_rfl) (hb'.out.drew) ?_
      simp only [List.toList_toArray]
      repeat (first | (refine wpq (u.v) rfl (quiet_mid 26 _ rfl g (k * 4) rfl u.l _ (fun w h => r1.out w h) Try.underlying26 rfl info_val) rfl (fun K hK => ?_); go_simp; refine hK _ ?_; clear hK K)
                    | (refine wpq (v.v) rfl (quiet_mid 26 _ rfl g ((k + 1) * 4) rfl v.l _ (fun w h => r2.out w h) Try.underlying26 rfl info_val) rfl (fun K hK => ?_); go_simp; refine hK _ ?_; clear hK K)
                    | (refine wpq (.tuple #[.int .i64 (-1), .int .i64 0]) rfl (quiet_call2 rfl Try.func14 (by kernel_rfl) rfl (u.v) (v.v) _ rfl rfl rfl (fun w9 h => (c12.out w9).mono fun e w' ⟨he, hb⟩ => ⟨he, h.trans (hb.mono h.size)⟩)) rfl (fun K hK => ?_); go_simp; refine hK _ ?_; clear hK K)
                    | (go_big_quiet_want; go_big_quiet_op; first | go_big_quiet_on | (refine ⟨_, fun _ _ => rfl, ?_⟩; go_big_quiet_on)))
      refine wpQuiet_nil ?_
      intro w4 h9
      have w4b := Lib.hid h9
      clear h9
      go_upto_region 5 with fail
      refine wp_region_quiet (C := fun w' => Below w.heap.size w w') (by kernel_rfl) (by kernel_rfl) (w4b.out.drew) ?_
      simp only [List.toList_toArray]
      repeat (first | (refine wpq (u.v) rfl (quiet_mid 26 _ rfl g (k * 4) rfl u.l _ (fun w h => r1.out w h) Try.underlying26 rfl info_val) rfl (fun K hK => ?_); go_simp; refine hK _ ?_; clear hK K)
                    | (refine wpq (v.v) rfl (quiet_mid 26 _ rfl g ((k + 1) * 4) rfl v.l _ (fun w h => r2.out w h) Try.underlying26 rfl info_val) rfl (fun K hK => ?_); go_simp; refine hK _ ?_; clear hK K)
                    | (refine wpq (.tuple #[.int .i64 (- -1), .int .i64 0]) rfl (quiet_call2 rfl Try.func14 (by kernel_rfl) rfl (v.v) (u.v) _ rfl rfl rfl (fun w9 h => (c21.out w9).mono fun e w' ⟨he, hb⟩ => ⟨he, h.trans (hb.mono h.size)⟩)) rfl (fun K hK => ?_); go_simp; refine hK _ ?_; clear hK K)
                    | (go_big_quiet_want; go_big_quiet_op; first | go_big_quiet_on | (refine ⟨_, fun _ _ => rfl, ?_⟩; go_big_quiet_on)))
      refine wpQuiet_nil ?_
      intro w5 h9
      have w5b := Lib.hid h9
      clear h9
      go_upto_region 6 with fail
      refine wp_region_quiet (C := fun w' => Below w.heap.size w w') (by kernel_rfl) (by kernel_rfl) (w5b.out.drew) ?_
      simp only [List.toList_toArray]
      repeat (first | (refine wpq (u.v) rfl (quiet_mid 26 _ rfl g (k * 4) rfl u.l _ (fun w h => r1.out w h) Try.underlying26 rfl info_val) rfl (fun K hK => ?_); go_simp; refine hK _ ?_; clear hK K)
                    | (refine wpq (v.v) rfl (quiet_mid 26 _ rfl g ((k + 1) * 4) rfl v.l _ (fun w h => r2.out w h) Try.underlying26 rfl info_val) rfl (fun K hK => ?_); go_simp; refine hK _ ?_; clear hK K)
                    | (refine wpq (.tuple #[.int .i64 (0), .int .i64 0]) rfl (quiet_call2 rfl Try.func14 (by kernel_rfl) rfl (u.v) (u.v) _ rfl rfl rfl (fun w9 h => (c11.out w9).mono fun e w' ⟨he, hb⟩ => ⟨he, h.trans (hb.mono h.size)⟩)) rfl (fun K hK => ?_); go_simp; refine hK _ ?_; clear hK K)
                    | (go_big_quiet_want; go_big_quiet_op; first | go_big_quiet_on | (refine ⟨_, fun _ _ => rfl, ?_⟩; go_big_quiet_on)))
      refine wpQuiet_nil ?_
      intro w6 h9
      have w6b := Lib.hid h9
      clear h9
      go_wp2
      go_roundw
      case rel => exact ⟨k + 1, by omega, by go_num, w6b.out⟩
      case measure => simp [intOf]; omega
    · have hb' := Lib.hid hb
      clear hb ha' hcmp hr
      go_wp2
      go_ret
      exact ⟨rfl, hb'.out⟩
end Go.Proofs.Ytpklfohaifeboaa

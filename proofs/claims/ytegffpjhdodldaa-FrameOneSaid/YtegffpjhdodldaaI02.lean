/- Contracts of package wire: lists of ids that are written. -/
import Derived.Test.YtegffpjhdodldaaI01
namespace Go
namespace Ytegffpjhdodldaa
open RowKit
/-- The slice value 'v' is the call's own (blocks from 'base' on), and reads as 'n' ids with the bytes 'F'. -/
def OwnI (base : Nat) (E : TypeId) (w : World) (v : Value) (n : Nat) (F : List Int) : Prop := w.ownsRow base E 32 v n (u8v F)
theorem OwnI.nil (w : World) (base : Nat) (E : TypeId) : OwnI base E w (.slice none 0 0) 0 [] := World.ownsRow_nil w base E 32
theorem OwnI.len {base : Nat} {E : TypeId} {w : World} {v : Value} {n : Nat} {F : List Int} (h : OwnI base E w v n F) : F.length = 32 * n := by
  have := h.1
  rw [u8v_length] at this; omega
theorem OwnI.rd {base : Nat} {E : TypeId} {w : World} {v : Value} {n : Nat} {F : List Int} (h : OwnI base E w v n F) : RdI w v n F := by
  have hl := h.len
  rcases h.2 with ⟨rfl, h0⟩ | ⟨g, cap, cur, rfl, hb, hg, hn, hm, hs, ht⟩
  · subst h0
    exact .inl ⟨none, 0, rfl, fun _ => rfl, rfl, List.eq_nil_of_length_eq_zero (by omega)⟩
  · refine .inr ⟨g, 0, cap, rfl, hn, hm, (Array.getElem?_eq_some_iff.1 hg).1, hl, fun i hi => ?_⟩
    have hcell := World.ownsRow.cells (g := g) h rfl i _ (u8v_get F i hi)
    rw [addr_add] at hcell
    exact hcell
theorem OwnI.kept {base : Nat} {E : TypeId} {w w' : World} {v : Value} {n : Nat} {F : List Int} (h : OwnI base E w v n F) (hb : Below w.heap.size w w') : OwnI base E w' v n F := by
  refine ⟨h.1, ?_⟩
  rcases h.2 with hn | ⟨g, cap, cur, rfl, hbg, hg, rest⟩
  · exact .inl hn
  · exact .inr ⟨g, cap, cur, rfl, hbg, (hb.block g (Array.getElem?_eq_some_iff.1 hg).1).trans hg, rest⟩
theorem OwnI.below {base : Nat} {E : TypeId} {w w' : World} {v : Value} {n : Nat} {F : List Int} (h : OwnI base E w v n F) (hg : w.grownBy w' v.ownBlock) (hb : base ≤ w.heap.size) : Below base w w' :=
  Below.grown (Below.refl base w) hg hb (fun k hk => (World.ownsRow.lt h k hk).1)
theorem OwnI.mono {base B : Nat} {E : TypeId} {w : World} {v : Value} {n : Nat} {F : List Int} (h : OwnI base E w v n F) (hB : B ≤ base) : OwnI B E w v n F := by
  refine ⟨h.1, ?_⟩
  rcases h.2 with hn | ⟨g, cap, cur, rfl, hbg, rest⟩
  · exact .inl hn
  · exact .inr ⟨g, cap, cur, rfl, Nat.le_trans hB hbg, rest⟩
section
variable {P : Program}
theorem appendI {ops : Array Oper} {rest : List Oper} {o : Oper} {a : Act} {w : World} {Q : Exit → Act → World → Prop} (hgd : o.guard = none) (s x : Operand) (t : TypeId)
    (ho : o.op = .call { callee := .builtin .append, args := #[s, x], argTypes := #[t, t] })
    (base : Nat) (e : TypeId) (ht : P.underlying t = some (.slice e)) (hinfo : (P.info? e).map (fun i => (i.zero, i.size, i.bytes)) = some (some (.agg (u8s (zerosB 32))), 32, 32))
    (v : Value) (hs : a.eval s = v) (n : Nat) (F : List Int) (hown : OwnI base e w v n F) (g c : Nat) (hx : a.eval x = .slice (some ⟨g, 0, none⟩) 1 c) (A : List Int) (hA : A.length = 32) (E : TypeId) (hrow : w.heap[g]? = some (.cells (u8s A) E (0, 0))) (hlen : n ≤ 1000000) (hbase : base ≤ w.heap.size)
    (h : ∀ v' w', OwnI base e w' v' (n + 1) (F ++ A) → w.grownBy w' v.ownBlock → Stop (wpList P ops Q rest (a.put o.dst v') w')) : wpList P ops Q (o :: rest) a w := by
  refine wpList_plain hgd fun K hK => ?_
  obtain ⟨i, hi, hz, hsz, hb⟩ := info_parts hinfo
  obtain ⟨v', w', hrun, h2, h3, _⟩ := run_append_own (P := P) w base t o.type e i (.agg (u8s (zerosB 32))) 32 32 ht hi hz hsz hb (by simp [Value.cells, u8s_size, zerosB_length]) (by omega) v n (u8v F) hown ⟨g, 0, none⟩ 1 c (u8v A)
    (by rw [u8v_length, hA]) (fun j u hu => by
      have hj : j < A.length := by
        have := (List.getElem?_eq_some_iff.1 hu).1
        rw [u8v_length] at this; exact this
      rw [u8v_get A j hj] at hu
      rw [addr_add, Nat.zero_add, cell_of_row _ _ _ _ _ _ hrow, u8s_get _ _ hj]; exact hu) (u8v_one A) (by unfold maxLen; omega) (by omega) hbase
  unfold Oper.wp execOp
  simp only [ho, resolve, invoke, builtin, Sem.run_bind, Sem.run_pure, Result.andThen_ok, List.map_toArray, List.map_cons, List.map_nil, hs, hx, hrun]
  rw [← u8v_append] at h2
  exact hK _ _ (h v' w' h2 h3).out
end
end Ytegffpjhdodldaa
end Go
namespace Go.Proofs.Ytegffpjhdodldaa
open Go.RowKit Go.Ytegffpjhdodldaa
set_option linter.unusedVariables false
theorem storeNewW {P : Program} {ops : Array Oper} {rest : List Oper} {o : Oper} {a : Act} {Q : Exit → Act → World → Prop} {old : Array Value} (w1 : World) (hgd : o.guard = none) (ty : TypeId) (x y : Operand) (ho : o.op = .store ty x y)
    (cells : Array Value) (t : TypeId) (hx : a.eval x = .pointer (some ⟨w1.heap.size, 0, none⟩)) (hy : a.eval y = .agg cells)
    (hi : (P.info? ty).map (·.size) = some cells.size) (hold : old.size = cells.size) (h1 : cells.all (·.oneCell') = true)
    (h : ∀ wx, wx.heap[w1.heap.size]? = some (.cells cells t (0, 0)) → Below w1.heap.size w1 wx → wpList P ops Q rest (a.put o.dst undef) wx) :
    wpList P ops Q (o :: rest) a (w1.alloc (.cells old t)) := by
  have hg := heap_alloc_new w1 (.cells old t)
  refine wpList_store_row hgd ty x y ho w1.heap.size cells hx hy t old hg hi hold h1 (h _ (setRow_heap _ _ _ _ _ _ hg) ?_)
  exact below_setRow' ((Below.refl _ _).alloc (Nat.le_refl _) _) (Nat.le_refl _) _
/-- The bytes of a list, the first k ids of which are written. -/
def listP (F : List Int) (n k : Nat) : List Int := numB n ++ (F.take (32 * k) ++ zerosB (32 * (n - k)))
theorem listP_length (F : List Int) (n k : Nat) (hF : F.length = 32 * n) (hk : k ≤ n) : (listP F n k).length = numL n + 32 * n := by
  unfold listP
  rw [List.length_append, List.length_append, numB_length, List.length_take, zerosB_length]; omega
theorem listP_step (F : List Int) (n k : Nat) (hF : F.length = 32 * n) (hk : k < n) : overlay (listP F n k) (numL n + 32 * k) (idF F k) = listP F n (k + 1) := by
  have hl : (numB n ++ F.take (32 * k)).length = numL n + 32 * k := by rw [List.length_append, numB_length, List.length_take]; omega
  have hid := idF_length F n k hF hk
  have e : listP F n k = (numB n ++ F.take (32 * k)) ++ zerosB (32 * (n - k)) := by rw [listP, List.append_assoc]
  rw [e]
  unfold overlay
  rw [List.take_left' hl, hid, List.drop_append, List.drop_eq_nil_of_le (by rw [hl]; omega), List.nil_append, hl]
  have hz : (zerosB (32 * (n - k))).drop (numL n + 32 * k + 32 - (numL n + 32 * k)) = zerosB (32 * (n - (k + 1))) := by
    unfold zerosB
    rw [List.drop_replicate]; congr 1; omega
  rw [hz, listP, ← take_ids]
  simp only [List.append_assoc]
theorem listP_all (F : List Int) (n : Nat) (hF : F.length = 32 * n) : listP F n n = numB n ++ F := by
  unfold listP
  rw [Nat.sub_self, Nat.mul_zero, List.take_of_length_le (by omega)]
  simp [zerosB]
theorem ids_many (a : Option Addr) (n c : Nat) (w : World) (hn : 60 < n) :
    Calls Try.prog 41 #[.slice a n c] w fun e w' => e = .returned (.tuple #[.slice none 0 0, .int .i64 4]) ∧ w = w' := by
  go_enter Try.func41, Try.ntmps41
  go_wp2
  go_ret2
  exact ⟨rfl, rfl⟩
theorem ids_order (F : List Int) (n : Nat) (v : Value) (w : World) (hr : RdI w v n F) (hF : Bytes F) (hn : n ≤ 60) (h : riseF F n = false) :
    Calls Try.prog 41 #[v] w fun e w' => e = .returned (.tuple #[.slice none 0 0, .int .i64 32]) ∧ Below w.heap.size w w' := by
  have hc := increase_any F n v w hr hF (by omega)
  rw [h] at hc
  have hc' := Lib.hid hc
  obtain ⟨a, c, rfl⟩ := hr.slice
  clear hr hF h hc
  go_enter Try.func41, Try.ntmps41
  go_wp2_with (go_at_call 54; (with_reducible refine (hc'.out).mono ?_); rintro e w1 ⟨rfl, hb⟩; have hb' := Lib.hid hb; clear hb)
  go_ret2
  exact ⟨rfl, hb'.out⟩
set_option maxRecDepth 100000 in
theorem ids_ok (F : List Int) (n : Nat) (v : Value) (w : World) (hr : RdI w v n F) (hF : Bytes F) (hn : n ≤ 60) (h : riseF F n = true) :
    Calls Try.prog 41 #[v] w fun e w' => ∃ g, e = .returned (.tuple #[.slice (some ⟨g, 0, none⟩) (numL n + 32 * n) (numL n + 32 * n), .int .i64 0]) ∧ w.heap.size ≤ g ∧ w'.heap[g]? = some (.cells (u8s (numB n ++ F)) 5 (0, 0)) ∧ Below w.heap.size w w' := by
  have hc := increase_any F n v w hr hF (by omega)
  rw [h] at hc
  have hc' := Lib.hid hc
  have hcn0 := fun wi => counted_any n (32 * n) (by omega) (by omega) wi
  have hlen := Lib.hid hr.len
  have hL9 := numL_le n (by omega)
  have hps := Lib.hid (fun k (hk : k < n) => listP_step F n k hlen.out hk)
  have hpl := Lib.hid (fun k (hk : k ≤ n) => listP_length F n k hlen.out hk)
  have hpa := Lib.hid (listP_all F n hlen.out)
  have hp0 : numB n ++ zerosB (32 * n) = listP F n 0 := by simp [listP]
  simp only [hp0, show ((32 * n : Nat) : Int) = (n : Int) * 32 by omega] at hcn0
  have hcn := Lib.hid hcn0
  obtain ⟨a, c, rfl⟩ := hr.slice
  have hr' := Lib.hid hr
  clear hr hF h hc hcn0 hp0
  generalize numB n ++ F = BF at *
  generalize numL n = L at *
  obtain ⟨T, hT⟩ : ∃ T, L + 32 * n = T := ⟨_, rfl⟩
  rw [hT] at hcn hpl ⊢
  have hTm : T ≤ 3000 := by omega
  go_enter Try.func41, Try.ntmps41
  go_wp2_with (first
    | (go_at_call 54; (with_reducible refine (hc'.out).mono ?_); rintro e w1 ⟨rfl, hb⟩; have hb' := Lib.hid hb; clear hb)
    | (go_at_call 55; (with_reducible refine (hcn.out _).mono ?_); rintro e w2 ⟨g, rfl, hg, h1, h2, h3, hb⟩; have r1 := Lib.hid h1; have r2 := Lib.hid h2; have r3 := Lib.hid h3; have hg' := Nat.le_trans hb'.out.size hg; have hB := Lib.hid (hb'.out.trans (hb.mono hb'.out.size)); clear h1 h2 h3 hb hg))
  clear hc' hcn hb'
  go_loopw [25] (fun i wr => ∃ k : Nat, k ≤ n ∧ i = .int .i64 k ∧ Below w.heap.size w wr ∧ wr.heap[g]? = some (.cells (u8s (listP F n k)) 5 (0, 0)) ∧ wr.heap[g + 1]? = some (.cells #[.slice (some ⟨g, 0, none⟩) T T] 29 (0, 0)) ∧ wr.heap[g + 2]? = some (.cells #[.int .i64 ((L + 32 * k : Nat) : Int)] 3 (0, 0))) (fun i _ => n - (intOf i).toNat)
  case atStart => exact ⟨0, Nat.zero_le _, rfl, hB.out, r1.out, r2.out, r3.out⟩
  case round =>
    obtain ⟨k, hk, rfl, hb, q1, q2, q3⟩ := hrel
    have hb' := Lib.hid hb; have q1' := Lib.hid q1; have q2' := Lib.hid q2; have q3' := Lib.hid q3
    clear hb q1 q2 q3 r1 r2 r3 hB
    by_cases hlt : k < n
    · obtain ⟨b, o, rfl, hbw, hnc, rng, _⟩ := rdI_at hr'.out hb'.out k hlt
      have rng' := Lib.hid rng
      have l1 := Lib.hid (idF_length F n k hlen.out hlt)
      have hst := Lib.hid (hps.out k hlt)
      have hpk := Lib.hid (hpl.out k hk)
      clear rng
      generalize idF F k = A at *
      generalize listP F n k = PK at *
      have i1 : Hid ((Try.prog.info? 58).map (·.size) = some (idV A).length) := Lib.hid (by rw [idV_length, l1.out]; kernel_rfl)
      have i2 : Hid ((Try.prog.info? 58).map (·.size) = some (u8s A).size) := Lib.hid (by rw [u8s_size, l1.out]; kernel_rfl)
      have hs := Lib.hid (show 32 = (u8s A).size from by rw [u8s_size, l1.out])
      have hfull := fun wx => run_sliceAt_full (P := Try.prog) Try.underlying58 (by kernel_rfl) wr.heap.size wx
      go_wp2_with (first
        | (refine wpList_load_mid rfl 58 _ rfl b (o + k * 32) rfl (idV A) _ rng'.out Try.underlying58 rfl i1.out ?_; rw [idV_arr])
        | (refine storeNewW wr rfl 58 _ _ rfl (u8s A) 58 rfl rfl i2.out (Eq.trans (by kernel_rfl) hs.out) (u8s_one _) ?_; intro wx hrow hb2; have hrow' := Lib.hid hrow; have hb2' := Lib.hid hb2; clear hrow hb2; refine Stop.go'' _ ?_))
      refine StopP.go ?_
      have hgl : g < wr.heap.size := (Array.getElem?_eq_some_iff.1 q1'.out).1
      have hgl1 : g + 1 < wr.heap.size := (Array.getElem?_eq_some_iff.1 q2'.out).1
      have hgl2 : g + 2 < wr.heap.size := (Array.getElem?_eq_some_iff.1 q3'.out).1
      have hp := Lib.hid (put_any g (L + 32 * k) T PK (.slice (some ⟨wr.heap.size, 0, none⟩) 32 32) A wx hpk.out ((hb2'.out.block _ hgl).trans q1'.out) ((hb2'.out.block _ hgl1).trans q2'.out) ((hb2'.out.block _ hgl2).trans q3'.out) (rdB_row hrow'.out 32 l1.out (by unfold maxLen; omega)) (by rw [l1.out]; omega) (by omega))
      clear hrow'
      go_wp2_with (go_at_call 60; (with_reducible refine (hp.out).mono ?_); rintro e w4 ⟨⟨v4, rfl⟩, s1, s2, s3, hb4⟩; have s1' := Lib.hid s1; have s2' := Lib.hid s2; have s3' := Lib.hid s3; have hb4' := Lib.hid hb4; clear s1 s2 s3 hb4)
      go_roundw
      case rel =>
        refine ⟨k + 1, by omega, by go_num, ?_, ?_, s2'.out, ?_⟩
        · exact hb'.out.trans ((hb2'.out.mono hb'.out.size).trans (hb4'.out.mono hg'))
        · rw [← hst.out]; exact s1'.out
        · have h := s3'.out
          rw [l1.out] at h
          exact h
      case measure => simp [intOf]; omega
    · obtain rfl : k = n := by omega
      rw [hpa.out] at q1'
      go_wp2
      go_ret2
      exact ⟨g, rfl, hg', q1'.out, hb'.out⟩
end Go.Proofs.Ytegffpjhdodldaa

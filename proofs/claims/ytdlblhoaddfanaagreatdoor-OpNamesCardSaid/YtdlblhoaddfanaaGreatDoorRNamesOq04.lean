/- Texts that the row stands on, part 4. -/
import Derived.Test.YtdlblhoaddfanaaGreatDoorRNamesOq03
import Derived.BigRegion
namespace Go.Proofs.YtdlblhoaddfanaaGreatDoor.wir.val
open Go.RowKit Go.YtdlblhoaddfanaaGreatDoor
set_option linter.unusedVariables false
/-- A slice of one's own lies in no block of another type. -/
theorem ownNe {B : Nat} {E T : TypeId} {w : World} {v : Value} {l : List Int} (h : OwnB B E w v l) {g : Nat} {cs : Array Value} {fr : Nat × Nat} (hg : w.heap[g]? = some (.cells cs T fr)) (hT : T ≠ E) : some g ≠ v.ownBlock := by
  rcases h.2 with ⟨rfl, _⟩ | ⟨k, cap, cur, rfl, hb, hk, _⟩
  · intro e; cases e
  · intro e
    simp only [Value.ownBlock, Option.some.injEq] at e
    subst e
    rw [hg] at hk
    injection hk with hk
    injection hk with _ h2 _
    exact hT h2
theorem grownRow {w w' : World} {r : Option Nat} (h : w.grownBy w' r) {g : Nat} {o : Obj} (hg : w.heap[g]? = some o) (hne : some g ≠ r) : w'.heap[g]? = some o :=
  (h.block g (Array.getElem?_eq_some_iff.1 hg).1 hne).trans hg
theorem own_setCell {B : Nat} {E T : TypeId} {w : World} {v : Value} {l : List Int} (h : OwnB B E w v l) {g : Nat} {cs : Array Value} (hg : w.heap[g]? = some (.cells cs T (0, 0))) (hT : T ≠ E) (i : Nat) (x : Value) : OwnB B E (w.setCell ⟨g, i, none⟩ x) v l := by
  have hne := ownNe h hg hT
  rw [setCell_eq hg]
  refine ⟨h.1, ?_⟩
  rcases h.2 with hn | ⟨k, cap, cur, rfl, hb, hk, rest⟩
  · exact .inl hn
  · refine .inr ⟨k, cap, cur, rfl, hb, (setRow_other w g k _ ?_).trans hk, rest⟩
    intro e
    exact hne (by rw [← e]; rfl)
set_option maxRecDepth 100000 in
/-- The closure that puts a part behind what is there. -/
theorem putM_any (B g : Nat) (sv : Value) (l : List Int) (rv : Value) (r : List Int) (e : Int) (w : World) (ho : OwnB B 5 w sv l) (hg : w.heap[g]? = some (.cells #[sv] 79 (0, 0))) (hr : RdB w rv r) (hlen : l.length + r.length ≤ 1000000) (hB : B ≤ g) :
    Calls Tryz.prog 89 #[rv, .int .i64 e, .pointer (some ⟨g, 0, none⟩)] w fun x w' => IsRet x ∧ ∃ sv', w'.heap[g]? = some (.cells #[sv'] 79 (0, 0)) ∧ OwnB B 5 w' sv' (l ++ r) ∧ Below B w w' := by
  have c1 : w.cell? ⟨g, 0, none⟩ = some sv := by rw [cell_of_row _ _ _ _ _ _ hg]; rfl
  have hgs := (Array.getElem?_eq_some_iff.1 hg).1
  have ho' := Lib.hid ho; have hg' := Lib.hid hg; have hr' := Lib.hid hr
  have hBs : B ≤ w.heap.size := by omega
  clear ho hg hr
  go_enter Tryz.func89, Tryz.ntmps89
  go_wp2_with (refine appendB rfl _ _ 79 rfl B 5 Tryz.underlying79 (by kernel_rfl) _ rfl l ho'.out _ rfl r hr'.out (by omega) hBs ?_)
  intro v' w1 h1 h2
  obtain ⟨pa, pc, rfl⟩ := h1.rd.slice
  have hg1 := grownRow h2 hg'.out (ownNe ho'.out hg'.out (by decide))
  have k1 : w1.cell? ⟨g, 0, none⟩ = some sv := by rw [cell_of_row _ _ _ _ _ _ hg1]; rfl
  have k2 : w1.frozen? ⟨g, 0, none⟩ = false := frozen_of_row _ _ 0 _ _ hg1
  have hb1 := Lib.hid (ho'.out.below h2 hBs)
  have ho1 := Lib.hid h1; have hg1' := Lib.hid hg1
  clear h1 h2 hg1
  generalize (l ++ r).length = N at *
  refine Stop.go ?_
  go_wp2
  go_end0
  exact ⟨⟨_, rfl⟩, _, setCell_row hg1'.out 0 _, own_setCell ho1.out hg1'.out (by decide) 0 _, hb1.out.setCell hB _⟩
theorem encB_short {v : Va} (fv : v.fit) (hv : v.ok = true) : (encB v.k v.n v.b v.s).length ≤ 100 := by
  have hk := valid_kind hv
  unfold encB
  split
  · have := numL_le (foldN v.n) (fold_lt v.n fv.n)
    simp only [List.length_cons, numB_length]; omega
  · split
    · simp only [List.length_cons, be_length]; omega
    · have h3 : v.k = 3 := by omega
      have hs : v.s.size ≤ 30 := valid_text (n := v.n) (b := v.b) (by rw [← h3]; exact hv)
      have := numL_le v.s.size (by omega)
      simp only [List.length_cons, textB_length, sI_length]; omega
theorem rd_one' (w : World) (x : Int) : RdB (w.alloc (.cells #[.int .u8 x] 5)) (.slice (some ⟨w.heap.size, 0, none⟩) 1 1) [x] := rdB_row (cs := [x]) (heap_alloc_new w _) 1 rfl (by decide)
/-- The bytes of a message. -/
def msgB (o : Od) : List Int := (((((([111] ++ numB o.au) ++ (numB o.n ++ o.F)) ++ numB o.st) ++ [o.k]) ++ (if o.k = 1 then [] else textB (sI o.key))) ++ (if o.k = 4 then encB o.v.k o.v.n o.v.b o.v.s else []))
theorem cellsP {w : World} {g : Nat} {o : Od} {pv : Value} (h : w.heap[g]? = some (.cells (o.c pv) 35 (0, 0))) :
    w.cell? ⟨g, 0, none⟩ = some (.int .u32 (o.au : Int)) ∧ w.cell? ⟨g, 1, none⟩ = some pv ∧ w.cell? ⟨g, 2, none⟩ = some (.int .u64 (o.st : Int)) ∧ w.cell? ⟨g, 3, none⟩ = some (.int .u8 o.k) ∧ w.cell? ⟨g, 4, none⟩ = some (.string o.key) ∧ w.rangeAt g 5 o.v.l := by
  refine ⟨cell_of_row _ _ _ _ _ _ h, cell_of_row _ _ _ _ _ _ h, cell_of_row _ _ _ _ _ _ h, cell_of_row _ _ _ _ _ _ h, cell_of_row _ _ _ _ _ _ h, ?_⟩
  intro j x hx
  have hj : j < 4 := (List.getElem?_eq_some_iff.1 hx).1
  rw [← hx]
  unfold World.cell?
  rw [show (⟨g, 5 + j, none⟩ : Addr).block = g from rfl, h]
  match j, hj with
  | 0, _ => rfl
  | 1, _ => rfl
  | 2, _ => rfl
  | 3, _ => rfl
theorem act_kinds {k : Int} {s : ByteArray} {v : Va} (h : actB k s v = true) : (k = 1) ∨ ((k = 2 ∨ k = 3) ∧ s.size ≤ 20) ∨ (k = 4 ∧ s.size ≤ 20 ∧ v.ok = true) := by
  have hk : keyB s = true → s.size ≤ 20 := fun h => by
    unfold keyB at h
    simp only [Bool.and_eq_true, decide_eq_true_eq] at h
    exact h.2.1
  unfold actB at h
  by_cases h1 : k = 1
  · exact .inl h1
  · rw [if_neg h1] at h
    by_cases h2 : k = 2 ∨ k = 3
    · rw [if_pos h2, Bool.and_eq_true] at h
      exact .inr (.inl ⟨h2, hk h.1⟩)
    · rw [if_neg h2] at h
      by_cases h4 : k = 4
      · rw [if_pos h4, Bool.and_eq_true] at h
        exact .inr (.inr ⟨h4, hk h.1, h.2⟩)
      · rw [if_neg h4] at h
        cases h
theorem u64_nat (n : Nat) (h : n < 18446744073709551616) : IntKind.u64.wrap (n : Int) = (n : Int) := by
  exact IntWalk.u64_in _ (by omega)
set_option maxHeartbeats 4000000 in
set_option maxRecDepth 100000 in
theorem message_any (o : Od) (fo : o.Fit) (hn : o.n ≤ 4) (hR : riseF o.F o.n = true) (hA : actB o.k o.key o.v = true) (pv : Value) (w : World) (hp : RdI w pv o.n o.F) :
    Calls Tryz.prog 61 #[.agg (o.c pv)] w fun e w' => ∃ sv, e = .returned sv ∧ OwnB w.heap.size 5 w' sv (msgB o) ∧ Below w.heap.size w w' := by
  obtain ⟨W, hW⟩ : ∃ W, W = w.alloc (.cells (o.c pv) 35) := ⟨_, rfl⟩
  have hr0 := heap_alloc_new w (.cells (o.c pv) 35)
  have hb0 := (Below.refl w.heap.size w).alloc (Nat.le_refl _) (.cells (o.c pv) 35)
  rw [← hW] at hr0 hb0
  have hlF := Lib.hid hp.len
  obtain ⟨pa, pc, rfl⟩ := hp.slice
  have hb1 := Lib.hid hb0
  have hlt := Lib.hid hb0.size
  have hrow := Lib.hid hr0
  have hmids := Lib.hid (fun (wz : World) (h : Below W.heap.size W wz) => (cellsP (rowB hrow.out h (Array.getElem?_eq_some_iff.1 hr0).1)))
  have hmf : ∀ (fn : Fn) (first cap : Array Value) (w : World), (Instr.makeFunc fn first cap).run Tryz.prog w = .ok (.func fn first cap) w := fun _ _ _ _ => rfl
  have kc := fun (w : World) => run_bytes_of_string (P := Tryz.prog) w 9 79 5 o.key Tryz.underlying9 Tryz.underlying79 Tryz.underlying5
  have hau := u64_nat o.au (by have := fo.au; omega)
  have hid := Lib.hid (fun (wz : World) (h : Below W.heap.size W wz) => ids_ok o.F o.n (.slice pa o.n pc) wz ((hp.mono hb0).mono h) fo.F (by omega) hR)
  have hnu := Lib.hid (fun (wz : World) => number_any o.au (by have := fo.au; omega) wz)
  have hns := Lib.hid (fun (wz : World) => number_any o.st fo.st wz)
  have la := Lib.hid (numL_le o.au (by have := fo.au; omega))
  have ls := Lib.hid (numL_le o.st fo.st)
  have ln := Lib.hid (numL_le o.n (by omega))
  have hkinds := Lib.hid (act_kinds hA)
  have hT := Lib.hid (fun (hs : o.key.size ≤ 20) (W : World) (m : Nat × Nat) => bytes_any _ (sI o.key) _ (rd_strI W o.key (by omega) m) (by rw [sI_length]; omega))
  have hE := Lib.hid (fun (hv : o.v.ok = true) (wz : World) => enc_ok o.v.k o.v.n o.v.b o.v.s fo.v hv wz)
  have hEl := Lib.hid (fun (hv : o.v.ok = true) => encB_short fo.v hv)
  have hnn := Lib.hid hn
  clear hr0 hb0 hp hrow fo hR hA hn
  go_enter Tryz.func61, Tryz.ntmps61
  go_upto_region 1 with fail
  rw [← hW]
  clear hW
  go_upto_region 3 with fail
  have hO := Lib.hid ((ownB_row (cs := [111]) (heap_alloc_new W (.cells #[.int .u8 111] 5)) 1 rfl (by decide) (Nat.le_refl W.heap.size)).kept (below_a (W.alloc (.cells #[.int .u8 111] 5)) (.cells #[.slice (some ⟨W.heap.size, 0, none⟩) 1 1] 79)))
  have hC := Lib.hid (hn2 W (.cells #[.int .u8 111] 5) (.cells #[.slice (some ⟨W.heap.size, 0, none⟩) 1 1] 79))
  have hB := Lib.hid ((below_a W (.cells #[.int .u8 111] 5)).alloc (by simp) (.cells #[.slice (some ⟨W.heap.size, 0, none⟩) 1 1] 79))
  have hN := Lib.hid (show ([111] : List Int).length ≤ 1 from Nat.le_refl _)
  generalize (W.alloc (.cells #[.int .u8 111] 5)).alloc (.cells #[.slice (some ⟨W.heap.size, 0, none⟩) 1 1] 79) = wx at *
  generalize Value.slice (some ⟨W.heap.size, 0, none⟩) 1 1 = sv at *
  obtain ⟨g, hg⟩ : ∃ g, g = W.heap.size + 1 := ⟨_, rfl⟩
  rw [← hg] at hC ⊢
  have hBg := Lib.hid (show W.heap.size ≤ g by omega)
  clear hg
  obtain ⟨c0, c1, c2, c3, c4, c5⟩ := hmids.out _ hB.out
  go_upto_region 4 with (first | (go_at_call 69; (with_reducible refine (hnu.out _).mono ?_); rintro e w4 ⟨rfl, q1, q2⟩; replace hO := Lib.hid (hO.out.kept (q2)); replace hC := Lib.hid (rowB hC.out (q2) (Array.getElem?_eq_some_iff.1 hC.out).1); replace hB := Lib.hid (hB.out.trans (Below.mono (q2) hB.out.size)); have hr := Lib.hid (rdB_row q1 _ (numB_length _) (Nat.le_trans la.out (by decide))); have hrl := Lib.hid (show (numB o.au).length ≤ 9 by rw [numB_length]; exact la.out); clear q1 q2) | (go_at_call 89; (with_reducible refine (putM_any W.heap.size g _ [111] _ (numB o.au) _ _ (hO.out) (hC.out) (hr.out) (by have h1 := hN.out; have h2 := hrl.out; omega) hBg.out).mono ?_); rintro e w5 ⟨⟨z5, rfl⟩, sv5, q1, q2, q3⟩; replace hO := Lib.hid q2; replace hC := Lib.hid q1; replace hB := Lib.hid ((hB.out).trans q3); replace hN := Lib.hid (show ([111] ++ (numB o.au)).length ≤ 20 by have h1 := hN.out; have h2 := hrl.out; rw [List.length_append]; omega); clear c0 c1 c2 c3 c4 c5; obtain ⟨c0, c1, c2, c3, c4, c5⟩ := hmids.out _ hB.out; clear q1 q2 q3 hrl))
  clear hr
  go_upto_region 5 with (first | (go_at_call 90; (with_reducible refine (hid.out _ hB.out).mono ?_); rintro e w4 ⟨g4, rfl, q0, q1, q2⟩; replace hO := Lib.hid (hO.out.kept (q2)); replace hC := Lib.hid (rowB hC.out (q2) (Array.getElem?_eq_some_iff.1 hC.out).1); replace hB := Lib.hid (hB.out.trans (Below.mono (q2) hB.out.size)); have hr := Lib.hid (rdB_row q1 _ (by rw [List.length_append, numB_length, hlF.out]) (by have h1 := ln.out; have h2 := hnn.out; unfold maxLen; omega)); have hrl := Lib.hid (show (numB o.n ++ o.F).length ≤ 140 by rw [List.length_append, numB_length, hlF.out]; have h1 := ln.out; have h2 := hnn.out; omega); clear q0 q1 q2) | (go_at_call 89; (with_reducible refine (putM_any W.heap.size g _ ([111] ++ numB o.au) _ (numB o.n ++ o.F) _ _ (hO.out) (hC.out) (hr.out) (by have h1 := hN.out; have h2 := hrl.out; omega) hBg.out).mono ?_); rintro e w5 ⟨⟨z5, rfl⟩, sv5, q1, q2, q3⟩; replace hO := Lib.hid q2; replace hC := Lib.hid q1; replace hB := Lib.hid ((hB.out).trans q3); replace hN := Lib.hid (show (([111] ++ numB o.au) ++ (numB o.n ++ o.F)).length ≤ 200 by have h1 := hN.out; have h2 := hrl.out; rw [List.length_append]; omega); clear c0 c1 c2 c3 c4 c5; obtain ⟨c0, c1, c2, c3, c4, c5⟩ := hmids.out _ hB.out; clear q1 q2 q3 hrl))
  clear hr
  go_upto_region 6 with (first | (go_at_call 69; (with_reducible refine (hns.out _).mono ?_); rintro e w4 ⟨rfl, q1, q2⟩; replace hO := Lib.hid (hO.out.kept (q2)); replace hC := Lib.hid (rowB hC.out (q2) (Array.getElem?_eq_some_iff.1 hC.out).1); replace hB := Lib.hid (hB.out.trans (Below.mono (q2) hB.out.size)); have hr := Lib.hid (rdB_row q1 _ (numB_length _) (Nat.le_trans ls.out (by decide))); have hrl := Lib.hid (show (numB o.st).length ≤ 9 by rw [numB_length]; exact ls.out); clear q1 q2) | (go_at_call 89; (with_reducible refine (putM_any W.heap.size g _ (([111] ++ numB o.au) ++ (numB o.n ++ o.F)) _ (numB o.st) _ _ (hO.out) (hC.out) (hr.out) (by have h1 := hN.out; have h2 := hrl.out; omega) hBg.out).mono ?_); rintro e w5 ⟨⟨z5, rfl⟩, sv5, q1, q2, q3⟩; replace hO := Lib.hid q2; replace hC := Lib.hid q1; replace hB := Lib.hid ((hB.out).trans q3); replace hN := Lib.hid (show ((([111] ++ numB o.au) ++ (numB o.n ++ o.F)) ++ (numB o.st)).length ≤ 220 by have h1 := hN.out; have h2 := hrl.out; rw [List.length_append]; omega); clear c0 c1 c2 c3 c4 c5; obtain ⟨c0, c1, c2, c3, c4, c5⟩ := hmids.out _ hB.out; clear q1 q2 q3 hrl))
  clear hr
  have hrl := Lib.hid (show ([o.k] : List Int).length ≤ 1 from Nat.le_refl _)
  go_upto_region 7 with (go_at_call 89; (with_reducible refine (putM_any W.heap.size g _ ((([111] ++ numB o.au) ++ (numB o.n ++ o.F)) ++ numB o.st) _ [o.k] _ _ (hO.out.kept (below_a _ (.cells #[.int .u8 o.k] 5))) (rowB hC.out (below_a _ (.cells #[.int .u8 o.k] 5)) (Array.getElem?_eq_some_iff.1 hC.out).1) (rd_one' _ _) (by have h1 := hN.out; have h2 := hrl.out; omega) hBg.out).mono ?_); rintro e w5 ⟨⟨z5, rfl⟩, sv5, q1, q2, q3⟩; replace hO := Lib.hid q2; replace hC := Lib.hid q1; replace hB := Lib.hid ((hB.out.alloc hB.out.size (.cells #[.int .u8 o.k] 5)).trans q3); replace hN := Lib.hid (show (((([111] ++ numB o.au) ++ (numB o.n ++ o.F)) ++ numB o.st) ++ [o.k]).length ≤ 230 by have h1 := hN.out; have h2 := hrl.out; rw [List.length_append]; omega); clear c0 c1 c2 c3 c4 c5; obtain ⟨c0, c1, c2, c3, c4, c5⟩ := hmids.out _ hB.out; clear q1 q2 q3 hrl)
  have cg : ∀ {wz : World} {sz : Value}, wz.heap[g]? = some (.cells #[sz] 79 (0, 0)) → wz.cell? ⟨g, 0, none⟩ = some sz := fun h => by rw [cell_of_row _ _ _ _ _ _ h]; rfl
  rcases hkinds.out with hk | ⟨hk, hks⟩ | ⟨hk, hks, hv⟩
  · have k1 : (o.k != 1) = false := by rw [hk]; rfl
    have k4 : (o.k == 4) = false := by rw [hk]; rfl
    have cz := cg hC.out
    clear cg
    go_wp2
    go_ret
    have he : msgB o = (((([111] ++ numB o.au) ++ (numB o.n ++ o.F)) ++ numB o.st) ++ [o.k]) := by unfold msgB; rw [if_pos hk, if_neg (by rw [hk]; decide), List.append_nil, List.append_nil]
    exact ⟨_, rfl, by rw [he]; exact hO.out.mono hlt.out, hb1.out.trans (hB.out.mono hb1.out.size)⟩
  · have k1 : (o.k != 1) = true := by rcases hk with hk | hk <;> (rw [hk]; rfl)
    have k4 : (o.k == 4) = false := by rcases hk with hk | hk <;> (rw [hk]; rfl)
    go_upto_region 9 with (first | (go_at_call 91; (refine (hT.out hks w5 _).mono ?_); rintro e w4 ⟨g4, rfl, q0, q1, q2⟩; replace hO := Lib.hid (hO.out.kept ((show Below w5.heap.size w5 (w5.drew.alloc _) from (Below.refl _ _).drew.alloc (Nat.le_refl _) _).trans (q2.mono (by simp)))); replace hC := Lib.hid (rowB hC.out ((show Below w5.heap.size w5 (w5.drew.alloc _) from (Below.refl _ _).drew.alloc (Nat.le_refl _) _).trans (q2.mono (by simp))) (Array.getElem?_eq_some_iff.1 hC.out).1); replace hB := Lib.hid (hB.out.trans (Below.mono ((show Below w5.heap.size w5 (w5.drew.alloc _) from (Below.refl _ _).drew.alloc (Nat.le_refl _) _).trans (q2.mono (by simp))) hB.out.size)); have hr := Lib.hid (rdB_row q1 _ rfl (by rw [textB_length, sI_length]; have := numL_le o.key.size (by omega); unfold maxLen; omega)); have hrl := Lib.hid (show (textB (sI o.key)).length ≤ 30 by rw [textB_length, sI_length]; have := numL_le o.key.size (by omega); omega); clear q0 q1 q2) | (go_at_call 89; (with_reducible refine (putM_any W.heap.size g _ (((([111] ++ numB o.au) ++ (numB o.n ++ o.F)) ++ numB o.st) ++ [o.k]) _ (textB (sI o.key)) _ _ (hO.out) (hC.out) (hr.out) (by have h1 := hN.out; have h2 := hrl.out; omega) hBg.out).mono ?_); rintro e w5 ⟨⟨z5, rfl⟩, sv5, q1, q2, q3⟩; replace hO := Lib.hid q2; replace hC := Lib.hid q1; replace hB := Lib.hid ((hB.out).trans q3); replace hN := Lib.hid (show ((((([111] ++ numB o.au) ++ (numB o.n ++ o.F)) ++ numB o.st) ++ [o.k]) ++ (textB (sI o.key))).length ≤ 260 by have h1 := hN.out; have h2 := hrl.out; rw [List.length_append]; omega); clear c0 c1 c2 c3 c4 c5; obtain ⟨c0, c1, c2, c3, c4, c5⟩ := hmids.out _ hB.out; clear q1 q2 q3 hrl))
    have cz := cg hC.out
    clear cg
    go_wp2
    go_ret
    have he : msgB o = ((((([111] ++ numB o.au) ++ (numB o.n ++ o.F)) ++ numB o.st) ++ [o.k]) ++ textB (sI o.key)) := by unfold msgB; rw [if_neg (by rcases hk with hk | hk <;> (rw [hk]; decide)), if_neg (by rcases hk with hk | hk <;> (rw [hk]; decide)), List.append_nil]
    exact ⟨_, rfl, by rw [he]; exact hO.out.mono hlt.out, hb1.out.trans (hB.out.mono hb1.out.size)⟩
  · have k1 : (o.k != 1) = true := by rw [hk]; rfl
    have k4 : (o.k == 4) = true := by rw [hk]; rfl
    go_upto_region 9 with (first | (go_at_call 91; (refine (hT.out hks w5 _).mono ?_); rintro e w4 ⟨g4, rfl, q0, q1, q2⟩; replace hO := Lib.hid (hO.out.kept ((show Below w5.heap.size w5 (w5.drew.alloc _) from (Below.refl _ _).drew.alloc (Nat.le_refl _) _).trans (q2.mono (by simp)))); replace hC := Lib.hid (rowB hC.out ((show Below w5.heap.size w5 (w5.drew.alloc _) from (Below.refl _ _).drew.alloc (Nat.le_refl _) _).trans (q2.mono (by simp))) (Array.getElem?_eq_some_iff.1 hC.out).1); replace hB := Lib.hid (hB.out.trans (Below.mono ((show Below w5.heap.size w5 (w5.drew.alloc _) from (Below.refl _ _).drew.alloc (Nat.le_refl _) _).trans (q2.mono (by simp))) hB.out.size)); have hr := Lib.hid (rdB_row q1 _ rfl (by rw [textB_length, sI_length]; have := numL_le o.key.size (by omega); unfold maxLen; omega)); have hrl := Lib.hid (show (textB (sI o.key)).length ≤ 30 by rw [textB_length, sI_length]; have := numL_le o.key.size (by omega); omega); clear q0 q1 q2) | (go_at_call 89; (with_reducible refine (putM_any W.heap.size g _ (((([111] ++ numB o.au) ++ (numB o.n ++ o.F)) ++ numB o.st) ++ [o.k]) _ (textB (sI o.key)) _ _ (hO.out) (hC.out) (hr.out) (by have h1 := hN.out; have h2 := hrl.out; omega) hBg.out).mono ?_); rintro e w5 ⟨⟨z5, rfl⟩, sv5, q1, q2, q3⟩; replace hO := Lib.hid q2; replace hC := Lib.hid q1; replace hB := Lib.hid ((hB.out).trans q3); replace hN := Lib.hid (show ((((([111] ++ numB o.au) ++ (numB o.n ++ o.F)) ++ numB o.st) ++ [o.k]) ++ (textB (sI o.key))).length ≤ 260 by have h1 := hN.out; have h2 := hrl.out; rw [List.length_append]; omega); clear c0 c1 c2 c3 c4 c5; obtain ⟨c0, c1, c2, c3, c4, c5⟩ := hmids.out _ hB.out; clear q1 q2 q3 hrl))
    clear hr
    go_upto_region 11 with (first | (go_at_call 92; (with_reducible refine (hE.out hv _).mono ?_); rintro e w4 ⟨sx, rfl, q1, q2⟩; replace hO := Lib.hid (hO.out.kept (q2)); replace hC := Lib.hid (rowB hC.out (q2) (Array.getElem?_eq_some_iff.1 hC.out).1); replace hB := Lib.hid (hB.out.trans (Below.mono (q2) hB.out.size)); have hr := Lib.hid (q1.rd); have hrl := Lib.hid (hEl.out hv); clear q1 q2) | (refine wpList_midV rfl 29 _ rfl w.heap.size 5 rfl o.v.l _ c5 Tryz.underlying29 rfl info_val ?_) | (go_at_call 89; (with_reducible refine (putM_any W.heap.size g _ ((((([111] ++ numB o.au) ++ (numB o.n ++ o.F)) ++ numB o.st) ++ [o.k]) ++ textB (sI o.key)) _ (encB o.v.k o.v.n o.v.b o.v.s) _ _ (hO.out) (hC.out) (hr.out) (by have h1 := hN.out; have h2 := hrl.out; omega) hBg.out).mono ?_); rintro e w5 ⟨⟨z5, rfl⟩, sv5, q1, q2, q3⟩; replace hO := Lib.hid q2; replace hC := Lib.hid q1; replace hB := Lib.hid ((hB.out).trans q3); replace hN := Lib.hid (show (((((([111] ++ numB o.au) ++ (numB o.n ++ o.F)) ++ numB o.st) ++ [o.k]) ++ textB (sI o.key)) ++ (encB o.v.k o.v.n o.v.b o.v.s)).length ≤ 400 by have h1 := hN.out; have h2 := hrl.out; rw [List.length_append]; omega); clear c0 c1 c2 c3 c4 c5; obtain ⟨c0, c1, c2, c3, c4, c5⟩ := hmids.out _ hB.out; clear q1 q2 q3 hrl))
    have cz := cg hC.out
    clear cg
    go_wp2
    go_ret
    have he : msgB o = (((((([111] ++ numB o.au) ++ (numB o.n ++ o.F)) ++ numB o.st) ++ [o.k]) ++ textB (sI o.key)) ++ encB o.v.k o.v.n o.v.b o.v.s) := by unfold msgB; rw [if_neg (by rw [hk]; decide), if_pos hk]
    exact ⟨_, rfl, by rw [he]; exact hO.out.mono hlt.out, hb1.out.trans (hB.out.mono hb1.out.size)⟩
end Go.Proofs.YtdlblhoaddfanaaGreatDoor.wir.val
namespace Go.Proofs.YtdlblhoaddfanaaGreatDoor.wir.val
open Go.RowKit Go.YtdlblhoaddfanaaGreatDoor
set_option linter.unusedVariables false
def Od.bare (o : Od) : Od := { o with e := 0, s := 0 }
theorem Od.Fit.bare {o : Od} (h : o.Fit) : o.bare.Fit := ⟨h.au, h.F, h.n, h.st, h.k, h.key, h.v, (show 0 < 4294967296 by decide), (show 0 < 4294967296 by decide)⟩
theorem chk_zero {o : Od} (h : chkO o = 0) : o.n ≤ 4 ∧ riseF o.F o.n = true ∧ actB o.k o.key o.v = true := by
  unfold chkO at h
  by_cases h1 : 4 < o.n
  · rw [if_pos h1] at h; omega
  · rw [if_neg h1] at h
    by_cases h2 : riseF o.F o.n = true
    · rw [if_pos h2] at h
      by_cases h3 : okO o = true
      · unfold okO at h3
        simp only [Bool.and_eq_true] at h3
        exact ⟨by omega, h2, h3.2.2.1⟩
      · rw [if_neg h3] at h; omega
    · rw [if_neg h2] at h; omega
/-- The bytes of an operation. -/
def encO (o : Od) : List Int := (msgB o ++ numB o.e) ++ numB o.s
theorem op_one (o : Od) (a : Option Addr) (n c : Nat) : (o.c (.slice a n c)).all (·.oneCell') = true := by simp [Od.c, Value.oneCell']
theorem set_sig {w : World} {g : Nat} {o : Od} {pv : Value} (h : w.heap[g]? = some (.cells (o.c pv) 35 (0, 0))) (e s : Int) :
    (w.setCell ⟨g, 9, none⟩ (.int .u32 e)).setCell ⟨g, 10, none⟩ (.int .u32 s) = w.setRow g #[.int .u32 (o.au : Int), pv, .int .u64 (o.st : Int), .int .u8 o.k, .string o.key, .int .u8 o.v.k, .int .i64 o.v.n, .int .u64 (o.v.b : Int), .string o.v.s, .int .u32 e, .int .u32 s] := by
  have h1 := fun c => setRow_heap w g (o.c pv) c _ (0, 0) h
  rw [setCell_eq h]
  rw [setCell_eq (h1 _), setRow2 h]
  simp only [List.setIfInBounds_toArray, List.set_cons_succ, List.set_cons_zero]
set_option maxHeartbeats 4000000 in
set_option maxRecDepth 100000 in
theorem opMessage_any (o : Od) (fo : o.Fit) (pv : Value) (w : World) (hp : RdI w pv o.n o.F) :
    Calls Tryz.prog 40 #[.agg (o.c pv)] w fun e w' => (if chkO o.bare = 0 then ∃ sv, e = .returned (.tuple #[sv, .int .i64 0]) ∧ OwnB w.heap.size 5 w' sv (msgB o) else e = .returned (.tuple #[.slice none 0 0, .int .i64 (chkO o.bare)])) ∧ Below w.heap.size w w' := by
  obtain ⟨W, hW⟩ : ∃ W, W = w.alloc (.cells (o.c pv) 35) := ⟨_, rfl⟩
  have hr0 := heap_alloc_new w (.cells (o.c pv) 35)
  have hb0 := (Below.refl w.heap.size w).alloc (Nat.le_refl _) (.cells (o.c pv) 35)
  rw [← hW] at hr0 hb0
  obtain ⟨pa, pc, rfl⟩ := hp.slice
  have hsz := Lib.hid (Array.getElem?_eq_some_iff.1 hr0).1
  have hp1 := Lib.hid (hp.mono hb0)
  have hb1 := Lib.hid hb0
  have hf := fun i => frozen_of_row W w.heap.size i (o.c (.slice pa o.n pc)) 35 hr0
  have f9 := hf 9
  have f10 := hf 10
  have hcs := cellsO hr0
  obtain ⟨_, _, _, _, _, c9, c10⟩ := hcs
  have hset := Lib.hid (set_sig hr0 0 0)
  have hrow0 := Lib.hid hr0
  clear hr0 hb0 hf
  go_enter Tryz.func40, Tryz.ntmps40
  go_upto_region 1 with fail
  rw [← hW]
  clear hW
  go_upto_region 2 with fail
  rw [hset.out]
  have hrow := Lib.hid (show (W.setRow w.heap.size (o.bare.c (.slice pa o.n pc))).heap[w.heap.size]? = some (.cells (o.bare.c (.slice pa o.n pc)) 35 (0, 0)) from setRow_heap _ _ _ _ _ _ hrow0.out)
  have hbW := Lib.hid (show Below w.heap.size w (W.setRow w.heap.size (o.bare.c (.slice pa o.n pc))) from below_setRow' hb1.out (Nat.le_refl _) _)
  clear hset
  change Code.wp _ _ _ _ (W.setRow w.heap.size (o.bare.c (.slice pa o.n pc)))
  generalize W.setRow w.heap.size (o.bare.c (.slice pa o.n pc)) = W2 at *
  have hp2 := Lib.hid (hp.mono hbW.out)
  have hK := Lib.hid (opCheck_any o.bare fo.bare (.slice pa o.n pc) W2 hp2.out)
  have hM := Lib.hid (fun (h : chkO o.bare = 0) (wz : World) (hb : Below W2.heap.size W2 wz) => message_any o.bare fo.bare (chk_zero h).1 (chk_zero h).2.1 (chk_zero h).2.2 (.slice pa o.n pc) wz (hp2.out.mono hb))
  clear hp1 hp hrow0 c9 c10 f9 f10 fo hb1
  generalize hE : chkO o.bare = E at *
  by_cases h0 : E = 0
  · have hb0 : (E != 0) = false := by rw [h0]; rfl
    have hM' := Lib.hid (hM.out h0)
    have hE' := Lib.hid (hE.trans h0)
    clear hM hE
    go_wp2_with (first
      | (refine wpList_load_row_g rfl 35 _ rfl w.heap.size rfl 35 (o.bare.c (.slice pa o.n pc)) (0, 0) _ hrow.out Tryz.underlying35 rfl info_op ?_)
      | (go_at_call 42; (with_reducible refine (hK.out).mono ?_); rintro e w3 ⟨rfl, h3⟩; have hb3 := Lib.hid h3; have hrow3 := Lib.hid (rowB hrow.out h3 (Array.getElem?_eq_some_iff.1 hrow.out).1); clear h3)
      | (refine wpList_load_row_g rfl 35 _ rfl w.heap.size rfl 35 (o.bare.c (.slice pa o.n pc)) (0, 0) _ hrow3.out Tryz.underlying35 rfl info_op ?_)
      | (go_at_call 61; (with_reducible refine (hM'.out _ hb3.out).mono ?_); rintro e w4 ⟨sv, rfl, h4, h5⟩; have hO := Lib.hid h4; have hb4 := Lib.hid (hbW.out.trans ((hb3.out.mono hbW.out.size).trans (h5.mono (Nat.le_trans hbW.out.size hb3.out.size)))); have hle := Lib.hid (Nat.le_trans hbW.out.size hb3.out.size); clear h4 h5))
    go_ret2
    exact ⟨⟨_, rfl, hO.out.mono hle.out⟩, hb4.out⟩
  · have hb0 : (E != 0) = true := by simpa using h0
    have hE' := Lib.hid (show ¬ chkO o.bare = 0 from fun h => h0 (hE ▸ h))
    have hEE := Lib.hid hE
    clear hM hE
    go_wp2_with (first
      | (refine wpList_load_row_g rfl 35 _ rfl w.heap.size rfl 35 (o.bare.c (.slice pa o.n pc)) (0, 0) _ hrow.out Tryz.underlying35 rfl info_op ?_)
      | (go_at_call 42; (with_reducible refine (hK.out).mono ?_); rintro e w3 ⟨rfl, h3⟩; have hb3 := Lib.hid h3; clear h3))
    go_ret2
    exact ⟨by first | (rw [if_neg hE'.out, hEE.out]; rfl) | (rw [hEE.out]; rfl) | rfl, hbW.out.trans (hb3.out.mono hbW.out.size)⟩
theorem cells11 {w : World} {g : Nat} {x0 x1 x2 x3 x4 x5 x6 x7 x8 x9 x10 : Value} {T : TypeId} (h : w.heap[g]? = some (.cells #[x0, x1, x2, x3, x4, x5, x6, x7, x8, x9, x10] T (0, 0))) :
    w.cell? ⟨g, 0, none⟩ = some x0 ∧ w.cell? ⟨g, 1, none⟩ = some x1 ∧ w.cell? ⟨g, 2, none⟩ = some x2 ∧ w.cell? ⟨g, 3, none⟩ = some x3 ∧ w.cell? ⟨g, 4, none⟩ = some x4 ∧ w.cell? ⟨g, 5, none⟩ = some x5 ∧ w.cell? ⟨g, 6, none⟩ = some x6 ∧ w.cell? ⟨g, 7, none⟩ = some x7 ∧ w.cell? ⟨g, 8, none⟩ = some x8 ∧ w.cell? ⟨g, 9, none⟩ = some x9 ∧ w.cell? ⟨g, 10, none⟩ = some x10 :=
  ⟨cell_of_row _ _ _ _ _ _ h, cell_of_row _ _ _ _ _ _ h, cell_of_row _ _ _ _ _ _ h, cell_of_row _ _ _ _ _ _ h, cell_of_row _ _ _ _ _ _ h, cell_of_row _ _ _ _ _ _ h, cell_of_row _ _ _ _ _ _ h, cell_of_row _ _ _ _ _ _ h, cell_of_row _ _ _ _ _ _ h, cell_of_row _ _ _ _ _ _ h, cell_of_row _ _ _ _ _ _ h⟩
theorem msgB_short (o : Od) (fo : o.Fit) (hn : o.n ≤ 4) (hl : o.F.length = 32 * o.n) (hA : actB o.k o.key o.v = true) : (msgB o).length ≤ 380 := by
  have h1 := numL_le o.au (by have := fo.au; omega)
  have h2 := numL_le o.st fo.st
  have h3 := numL_le o.n (by omega)
  have hT : o.key.size ≤ 20 → (textB (sI o.key)).length ≤ 30 := fun h => by rw [textB_length, sI_length]; have := numL_le o.key.size (by omega); omega
  unfold msgB
  simp only [List.length_append, numB_length, hl, List.length_cons, List.length_nil]
  rcases act_kinds hA with hk | ⟨hk, hs⟩ | ⟨hk, hs, hv⟩
  · rw [if_pos hk, if_neg (by rw [hk]; decide)]; simp; omega
  · have := hT hs
    rw [if_neg (by rcases hk with hk | hk <;> (rw [hk]; decide)), if_neg (by rcases hk with hk | hk <;> (rw [hk]; decide))]
    simp; omega
  · have := hT hs
    have := encB_short fo.v hv
    rw [if_neg (by rw [hk]; decide), if_pos hk]
    omega
end Go.Proofs.YtdlblhoaddfanaaGreatDoor.wir.val
namespace Go.Proofs.YtdlblhoaddfanaaGreatDoor.wir.val
open Go.RowKit Go.YtdlblhoaddfanaaGreatDoor
set_option linter.unusedVariables false
set_option maxHeartbeats 8000000 in
set_option maxRecDepth 100000 in
theorem opEncode_ok (o : Od) (fo : o.Fit) (pv : Value) (w : World) (hp : RdI w pv o.n o.F) (h0 : chkO o = 0) :
    Calls Tryz.prog 36 #[.agg (o.c pv)] w fun e w' => ∃ sv, e = .returned (.tuple #[sv, .int .i64 0]) ∧ OwnB w.heap.size 5 w' sv (encO o) ∧ Below w.heap.size w w' := by
  obtain ⟨W, hW⟩ : ∃ W, W = w.alloc (.cells (o.c pv) 35) := ⟨_, rfl⟩
  have hr0 := heap_alloc_new w (.cells (o.c pv) 35)
  have hb0 := (Below.refl w.heap.size w).alloc (Nat.le_refl _) (.cells (o.c pv) 35)
  rw [← hW] at hr0 hb0
  have hms := Lib.hid (msgB_short o fo (chk_zero h0).1 hp.len (chk_zero h0).2.2)
  obtain ⟨pa, pc, rfl⟩ := hp.slice
  have hp1 := Lib.hid (hp.mono hb0)
  have hb1 := Lib.hid hb0
  have hrow := Lib.hid hr0
  have hlt := (Array.getElem?_eq_some_iff.1 hr0).1
  have hrows := Lib.hid (fun (wz : World) (h : Below W.heap.size W wz) => rowB hrow.out h hlt)
  have hS := Lib.hid (show ∀ (wz : World) (h : Below W.heap.size W wz), (fun wz => wz.cell? ⟨w.heap.size, 0, none⟩ = some (.int .u32 (o.au : Int)) ∧ wz.cell? ⟨w.heap.size, 1, none⟩ = some (.slice pa o.n pc) ∧ wz.cell? ⟨w.heap.size, 2, none⟩ = some (.int .u64 (o.st : Int)) ∧ wz.cell? ⟨w.heap.size, 3, none⟩ = some (.int .u8 o.k) ∧ wz.cell? ⟨w.heap.size, 4, none⟩ = some (.string o.key) ∧ wz.cell? ⟨w.heap.size, 5, none⟩ = some (.int .u8 o.v.k) ∧ wz.cell? ⟨w.heap.size, 6, none⟩ = some (.int .i64 o.v.n) ∧ wz.cell? ⟨w.heap.size, 7, none⟩ = some (.int .u64 (o.v.b : Int)) ∧ wz.cell? ⟨w.heap.size, 8, none⟩ = some (.string o.v.s) ∧ wz.cell? ⟨w.heap.size, 9, none⟩ = some (.int .u32 (o.e : Int)) ∧ wz.cell? ⟨w.heap.size, 10, none⟩ = some (.int .u32 (o.s : Int))) wz from fun wz h => cells11 (hrows.out wz h))
  have hK := Lib.hid (opCheck_any o fo (.slice pa o.n pc) W hp1.out)
  rw [h0] at hK
  have hM := Lib.hid (fun (wz : World) (hb : Below W.heap.size W wz) => message_any o fo (chk_zero h0).1 (chk_zero h0).2.1 (chk_zero h0).2.2 (.slice pa o.n pc) wz (hp1.out.mono hb))
  have hne := Lib.hid (fun (wz : World) => number_any o.e (by have := fo.e; omega) wz)
  have hns := Lib.hid (fun (wz : World) => number_any o.s (by have := fo.s; omega) wz)
  have le := Lib.hid (numL_le o.e (by have := fo.e; omega))
  have ls := Lib.hid (numL_le o.s (by have := fo.s; omega))
  have hwe := u64_nat o.e (by have := fo.e; omega)
  have hws := u64_nat o.s (by have := fo.s; omega)
  have he := Lib.hid (show encO o = (msgB o ++ numB o.e) ++ numB o.s from rfl)
  generalize encO o = EO at *
  generalize hme : msgB o = MB at *
  clear hr0 hb0 hp fo h0 hme
  go_enter Tryz.func36, Tryz.ntmps36
  go_upto_region 1 with fail
  rw [← hW]
  clear hW
  go_upto_region 4 with (first | (refine wpList_load_row_g rfl 35 _ rfl w.heap.size rfl 35 (o.c (.slice pa o.n pc)) (0, 0) _ hrow.out Tryz.underlying35 rfl info_op ?_) | (go_at_call 42; (with_reducible refine (hK.out).mono ?_); rintro e w3 ⟨rfl, h3⟩; have hB3 := Lib.hid h3; clear h3))
  have hB := Lib.hid (show Below W.heap.size W w3.drew from hB3.out.drew)
  have hB0 := Lib.hid (show W.heap.size ≤ w3.drew.heap.size from hB.out.size)
  obtain ⟨c0, c1, c2, c3, c4, c5, c6, c7, c8, c9, c10⟩ := hS.out w3 hB3.out
  obtain ⟨N5, hN5⟩ : ∃ N, (MB ++ numB o.e).length = N := ⟨_, rfl⟩
  have hN6 := Lib.hid (show N5 ≤ 400 by rw [← hN5, List.length_append, numB_length]; have h1 := hms.out; have h2 := le.out; omega)
  replace hN5 := Lib.hid hN5
  go_region_held3 (fun wz => wz.cell? ⟨w.heap.size, 0, none⟩ = some (.int .u32 (o.au : Int)) ∧ wz.cell? ⟨w.heap.size, 1, none⟩ = some (.slice pa o.n pc) ∧ wz.cell? ⟨w.heap.size, 2, none⟩ = some (.int .u64 (o.st : Int)) ∧ wz.cell? ⟨w.heap.size, 3, none⟩ = some (.int .u8 o.k) ∧ wz.cell? ⟨w.heap.size, 4, none⟩ = some (.string o.key) ∧ wz.cell? ⟨w.heap.size, 5, none⟩ = some (.int .u8 o.v.k) ∧ wz.cell? ⟨w.heap.size, 6, none⟩ = some (.int .i64 o.v.n) ∧ wz.cell? ⟨w.heap.size, 7, none⟩ = some (.int .u64 (o.v.b : Int)) ∧ wz.cell? ⟨w.heap.size, 8, none⟩ = some (.string o.v.s) ∧ wz.cell? ⟨w.heap.size, 9, none⟩ = some (.int .u32 (o.e : Int)) ∧ wz.cell? ⟨w.heap.size, 10, none⟩ = some (.int .u32 (o.s : Int))) (first | (exact hS.out _ hB.out) | go_keep)
    (first
      | (go_at_call 61; (with_reducible refine (hM.out _ hB.out).mono ?_); rintro e w4 ⟨sv, rfl, q1, q2⟩; (try replace hO := Lib.hid (hO.out.kept q2)); (try replace hr := Lib.hid (hr.out.mono q2)); replace hB := Lib.hid (hB.out.trans (Below.mono q2 hB.out.size)); have hO := Lib.hid (q1.mono hB0.out); obtain ⟨ma, mc, hmv⟩ := hO.out.rd.slice; subst hmv; clear q1 q2)
      | (go_at_call 69; (with_reducible refine (hne.out _).mono ?_); rintro e w4 ⟨rfl, q1, q2⟩; (try replace hO := Lib.hid (hO.out.kept q2)); (try replace hr := Lib.hid (hr.out.mono q2)); replace hB := Lib.hid (hB.out.trans (Below.mono q2 hB.out.size)); have hr := Lib.hid (rdB_row q1 _ (numB_length _) (Nat.le_trans le.out (by decide))); clear q1 q2)
      | (refine step_appendB (by rfl) _ _ 79 (by rfl) W.heap.size 5 Tryz.underlying79 (by kernel_rfl) _ (by rfl) MB hO.out _ (by rfl) (numB o.e) hr.out (by rw [numB_length]; have h1 := hms.out; have h2 := le.out; omega) (hB.out.size) ?_; intro v5 w5 h1 h2; replace hB := Lib.hid (hB.out.trans (hO.out.below h2 hB.out.size)); replace hO := Lib.hid h1; obtain ⟨na, nc, hnv⟩ := hO.out.rd.slice; rw [hN5.out] at hnv; subst hnv; clear h1 h2))
  all_goals
    clear c0 c1 c2 c3 c4 c5 c6 c7 c8 c9 c10 hr
    obtain ⟨c0, c1, c2, c3, c4, c5, c6, c7, c8, c9, c10⟩ := hS.out _ hB.out
    go_upto_region 5 with fail
    go_wp2_with (go_at_call 69; (with_reducible refine (hns.out _).mono ?_); rintro e w4 ⟨rfl, q1, q2⟩; (try replace hO := Lib.hid (hO.out.kept q2)); (try replace hr := Lib.hid (hr.out.mono q2)); replace hB := Lib.hid (hB.out.trans (Below.mono q2 hB.out.size)); have hr := Lib.hid (rdB_row q1 _ (numB_length _) (Nat.le_trans ls.out (by decide))); clear q1 q2; refine Stop.go'' _ ?_)
    refine StopP.go ?_
    go_wp2_with (refine appendB rfl _ _ 79 rfl W.heap.size 5 Tryz.underlying79 (by kernel_rfl) _ rfl (MB ++ numB o.e) hO.out _ rfl (numB o.s) hr.out (by rw [hN5.out, numB_length]; have h1 := hN6.out; have h3 := ls.out; omega) hB.out.size ?_)
    intro v6 w6 h1 h2
    replace hB := Lib.hid (hB.out.trans (hO.out.below h2 hB.out.size))
    replace hO := Lib.hid h1
    clear h1 h2
    refine Stop.go ?_
    go_wp2
    go_ret2
    exact ⟨_, rfl, by rw [he.out, List.append_assoc]; first | exact hO.out.mono hb1.out.size | (rw [← List.append_assoc]; exact hO.out.mono hb1.out.size), hb1.out.trans (hB.out.mono hb1.out.size)⟩
end Go.Proofs.YtdlblhoaddfanaaGreatDoor.wir.val
namespace Go.Proofs.YtdlblhoaddfanaaGreatDoor.wir.val
open Go.RowKit Go.YtdlblhoaddfanaaGreatDoor
set_option linter.unusedVariables false
theorem bytes_one {x : Int} (h : 0 ≤ x ∧ x < 256) : Bytes [x] := bytes_mk_cons h (fun i => by simp [ith])
theorem sI_bytes0 (s : ByteArray) : Bytes (sI s) := fun i => by
  rcases Nat.lt_or_ge i s.size with h | h
  · rw [← sI_get s i h]
    have := s[i].toNat_lt
    omega
  · rw [ith_over _ _ (by rw [sI_length]; exact h)]; omega
theorem textB_bytes (s : ByteArray) (h : s.size ≤ 1000000) : Bytes (textB (sI s)) := by
  unfold textB
  exact bytes_append _ _ (numB_bytes _ (by rw [sI_length]; omega)) (sI_bytes0 s)
theorem encB_bytes0 {v : Va} (fv : v.fit) (hv : v.ok = true) : Bytes (encB v.k v.n v.b v.s) := by
  unfold encB
  split
  · exact bytes_mk_cons (by omega) (numB_bytes _ (fold_lt _ fv.n))
  · split
    · exact bytes_mk_cons (by omega) (be_bytes _ _)
    · exact bytes_mk_cons (by omega) (textB_bytes _ fv.s)
theorem bytes_nil : Bytes [] := fun i => by simp [ith]
theorem msgB_bytes (o : Od) (fo : o.Fit) (hn : o.n ≤ 4) (hA : actB o.k o.key o.v = true) : Bytes (msgB o) := by
  unfold msgB
  refine bytes_append _ _ (bytes_append _ _ (bytes_append _ _ (bytes_append _ _ (bytes_append _ _ (bytes_append _ _ (bytes_one (by omega)) (numB_bytes _ (by have := fo.au; omega))) (bytes_append _ _ (numB_bytes _ (by omega)) fo.F)) (numB_bytes _ fo.st)) (bytes_one fo.k)) ?_) ?_
  · split
    · exact bytes_nil
    · exact textB_bytes _ fo.key
  · split
    · rename_i hk
      rcases act_kinds hA with h | ⟨h, _⟩ | ⟨_, _, h⟩
      · rw [hk] at h; omega
      · rw [hk] at h; omega
      · exact encB_bytes0 fo.v h
    · exact bytes_nil
theorem encO_bytes (o : Od) (fo : o.Fit) (hn : o.n ≤ 4) (hA : actB o.k o.key o.v = true) : Bytes (encO o) :=
  bytes_append _ _ (bytes_append _ _ (msgB_bytes o fo hn hA) (numB_bytes _ (by have := fo.e; omega))) (numB_bytes _ (by have := fo.s; omega))
theorem encO_short (o : Od) (fo : o.Fit) (hn : o.n ≤ 4) (hl : o.F.length = 32 * o.n) (hA : actB o.k o.key o.v = true) : (encO o).length ≤ 400 := by
  have h1 := msgB_short o fo hn hl hA
  have h2 := numL_le o.e (by have := fo.e; omega)
  have h3 := numL_le o.s (by have := fo.s; omega)
  unfold encO
  rw [List.length_append, List.length_append, numB_length, numB_length]; omega
set_option maxHeartbeats 4000000 in
set_option maxRecDepth 100000 in
theorem opEncode_bad (o : Od) (fo : o.Fit) (pv : Value) (w : World) (hp : RdI w pv o.n o.F) (h0 : chkO o ≠ 0) :
    Calls Tryz.prog 36 #[.agg (o.c pv)] w fun e w' => e = .returned (.tuple #[.slice none 0 0, .int .i64 (chkO o)]) ∧ Below w.heap.size w w' := by
  obtain ⟨W, hW⟩ : ∃ W, W = w.alloc (.cells (o.c pv) 35) := ⟨_, rfl⟩
  have hr0 := heap_alloc_new w (.cells (o.c pv) 35)
  have hb0 := (Below.refl w.heap.size w).alloc (Nat.le_refl _) (.cells (o.c pv) 35)
  rw [← hW] at hr0 hb0
  obtain ⟨pa, pc, rfl⟩ := hp.slice
  have hb1 := Lib.hid hb0
  have hrow := Lib.hid hr0
  have hK := Lib.hid (opCheck_any o fo (.slice pa o.n pc) W (hp.mono hb0))
  clear hr0 hb0 hp fo
  generalize chkO o = E at *
  have hE : (E != 0) = true := by simpa using h0
  clear h0
  go_enter Tryz.func36, Tryz.ntmps36
  go_upto_region 1 with fail
  rw [← hW]
  clear hW
  go_wp2_with (first
    | (refine wpList_load_row_g rfl 35 _ rfl w.heap.size rfl 35 (o.c (.slice pa o.n pc)) (0, 0) _ hrow.out Tryz.underlying35 rfl info_op ?_)
    | (go_at_call 42; (with_reducible refine (hK.out).mono ?_); rintro e w3 ⟨rfl, h3⟩; have hb3 := Lib.hid h3; clear h3))
  go_ret2
  exact ⟨rfl, hb1.out.trans (hb3.out.mono hb1.out.size)⟩
theorem info_id : (Tryz.prog.info? 24).map (·.size) = some 32 := by kernel_rfl
end Go.Proofs.YtdlblhoaddfanaaGreatDoor.wir.val
namespace Go.Proofs.YtdlblhoaddfanaaGreatDoor.wir.val
open Go.RowKit Go.YtdlblhoaddfanaaGreatDoor
set_option linter.unusedVariables false
end Go.Proofs.YtdlblhoaddfanaaGreatDoor.wir.val
namespace Go.Proofs.YtdlblhoaddfanaaGreatDoor.wir.val
open Go.RowKit Go.YtdlblhoaddfanaaGreatDoor
set_option linter.unusedVariables false
end Go.Proofs.YtdlblhoaddfanaaGreatDoor.wir.val
namespace Go.Proofs.YtdlblhoaddfanaaGreatDoor
open Go.RowKit Go.YtdlblhoaddfanaaGreatDoor
set_option linter.unusedVariables false
end Go.Proofs.YtdlblhoaddfanaaGreatDoor
namespace Go.Proofs.YtdlblhoaddfanaaGreatDoor
open Go.RowKit Go.YtdlblhoaddfanaaGreatDoor
set_option linter.unusedVariables false
end Go.Proofs.YtdlblhoaddfanaaGreatDoor
namespace Go.Proofs.YtdlblhoaddfanaaGreatDoor
open Go.RowKit Go.YtdlblhoaddfanaaGreatDoor
set_option linter.unusedVariables false
theorem own0 (w : World) : OwnB w.heap.size 5 (w.alloc (.cells #[] 5)) (.slice (some ⟨w.heap.size, 0, none⟩) 0 0) [] :=
  ⟨rfl, .inr ⟨w.heap.size, 0, _, rfl, Nat.le_refl _, heap_alloc_new w _, Nat.le_refl _, by decide, rfl, rfl⟩⟩
end Go.Proofs.YtdlblhoaddfanaaGreatDoor
namespace Go.Proofs.YtdlblhoaddfanaaGreatDoor
open Go.RowKit Go.YtdlblhoaddfanaaGreatDoor
set_option linter.unusedVariables false
end Go.Proofs.YtdlblhoaddfanaaGreatDoor
namespace Go.Proofs.YtdlblhoaddfanaaGreatDoor.wir.val
open Go.RowKit Go.YtdlblhoaddfanaaGreatDoor
set_option linter.unusedVariables false
theorem run_appendIs {P : Program} (w : World) (base : Nat) (t ty e : TypeId) (ht : P.underlying t = some (.slice e)) (hinfo : (P.info? e).map (fun i => (i.zero, i.size, i.bytes)) = some (some (.agg (u8s (zerosB 32))), 32, 32))
    (v : Value) (n : Nat) (F : List Int) (hown : OwnI base e w v n F) (sv : Value) (m : Nat) (G : List Int) (hr : RdI w sv m G) (hlen : n + m ≤ 1000000) (hbase : base ≤ w.heap.size) :
    ∃ v' w', (Builtin.append_ #[t, t] ty #[v, sv]).run P w = .ok v' w' ∧ OwnI base e w' v' (n + m) (F ++ G) ∧ w.grownBy w' v.ownBlock := by
  obtain ⟨i, hi, hz, hs, hb⟩ := info_parts hinfo
  have hlG := hr.len
  rcases hr with ⟨sa, sc, rfl, hsn, rfl, rfl⟩ | ⟨b, o, c, rfl, h1, h2, h3, h4, h5⟩
  · cases sa with
    | some sa =>
      obtain ⟨v', w', hrun, ho, hg, _⟩ := run_append_own (P := P) w base t ty e i (.agg (u8s (zerosB 32))) 32 32 ht hi hz hs hb (by simp [Value.cells, u8s_size, zerosB_length]) (by omega) v n (u8v F) hown sa 0 sc (u8v [])
        (by rw [u8v_length]; rfl) (fun k x hx => by cases hx) (u8v_one []) (by unfold maxLen; omega) (by omega) hbase
      refine ⟨v', w', hrun, ?_, hg⟩
      unfold OwnI
      rw [List.append_nil]
      simpa [u8v] using ho
    | none =>
      obtain rfl := hsn rfl
      refine ⟨v, w, run_append_owned_none (P := P) (w := w) base t ty e i 32 ht hi v n (u8v F) hown, ?_, ⟨rfl, rfl, rfl, Nat.le_refl _, fun _ _ _ => rfl⟩⟩
      rw [List.append_nil]; exact hown
  · obtain ⟨v', w', hrun, ho, hg, _⟩ := run_append_own (P := P) w base t ty e i (.agg (u8s (zerosB 32))) 32 32 ht hi hz hs hb (by simp [Value.cells, u8s_size, zerosB_length]) (by omega) v n (u8v F) hown ⟨b, o, none⟩ m c (u8v G)
      (by rw [u8v_length]; omega) (RdB.src h5) (u8v_one G) (by unfold maxLen; omega) (by omega) hbase
    refine ⟨v', w', hrun, ?_, hg⟩
    unfold OwnI
    rw [u8v_append]; exact ho
theorem appendIs {P : Program} {ops : Array Oper} {rest : List Oper} {o : Oper} {a : Act} {w : World} {Q : Exit → Act → World → Prop} (hgd : o.guard = none) (s x : Operand) (t : TypeId)
    (ho : o.op = .call { callee := .builtin .append, args := #[s, x], argTypes := #[t, t] })
    (base : Nat) (e : TypeId) (ht : P.underlying t = some (.slice e)) (hinfo : (P.info? e).map (fun i => (i.zero, i.size, i.bytes)) = some (some (.agg (u8s (zerosB 32))), 32, 32))
    (v : Value) (hs : a.eval s = v) (n : Nat) (F : List Int) (hown : OwnI base e w v n F) (sv : Value) (hx : a.eval x = sv) (m : Nat) (G : List Int) (hr : RdI w sv m G) (hlen : n + m ≤ 1000000) (hbase : base ≤ w.heap.size)
    (h : ∀ v' w', OwnI base e w' v' (n + m) (F ++ G) → w.grownBy w' v.ownBlock → Stop (wpList P ops Q rest (a.put o.dst v') w')) : wpList P ops Q (o :: rest) a w := by
  refine wpList_plain hgd fun K hK => ?_
  obtain ⟨v', w', hrun, h2, h3⟩ := run_appendIs (P := P) w base t o.type e ht hinfo v n F hown sv m G hr hlen hbase
  unfold Oper.wp execOp
  simp only [ho, resolve, invoke, builtin, Sem.run_bind, Sem.run_pure, Result.andThen_ok, List.map_toArray, List.map_cons, List.map_nil, hs, hx, hrun]
  exact hK _ _ (h v' w' h2 h3).out
theorem ownI_setRow {base : Nat} {E : TypeId} {w : World} {v : Value} {n : Nat} {F : List Int} (h : OwnI base E w v n F) {g : Nat} (hg : g < base) (cs : Array Value) : OwnI base E (w.setRow g cs) v n F := by
  refine ⟨h.1, ?_⟩
  rcases h.2 with hn | ⟨k, cap, cur, rfl, hbg, hk, rest⟩
  · exact .inl hn
  · exact .inr ⟨k, cap, cur, rfl, hbg, (setRow_other w g k cs (by omega)).trans hk, rest⟩
def zO : Od := ⟨0, 0, [], 0, 0, ⟨#[]⟩, ⟨0, 0, 0, ⟨#[]⟩⟩, 0, 0⟩
end Go.Proofs.YtdlblhoaddfanaaGreatDoor.wir.val
namespace Go.Proofs.YtdlblhoaddfanaaGreatDoor.wir.val
open Go.RowKit Go.YtdlblhoaddfanaaGreatDoor
set_option linter.unusedVariables false
set_option maxHeartbeats 4000000 in
set_option maxRecDepth 100000 in
theorem opID_bad (o : Od) (fo : o.Fit) (pv : Value) (w : World) (hp : RdI w pv o.n o.F) (h0 : chkO o ≠ 0) :
    Calls Tryz.prog 10 #[.agg (o.c pv)] w fun e w' => e = .returned (.tuple #[.agg (u8s (zerosB 32)), .int .i64 (chkO o)]) ∧ Below w.heap.size w w' := by
  obtain ⟨W, hW⟩ : ∃ W, W = (w.alloc (.cells (o.c pv) 35)).alloc (.cells (u8s (zerosB 32)) 24) := ⟨_, rfl⟩
  have hr0 : W.heap[w.heap.size]? = some (.cells (o.c pv) 35 (0, 0)) := by rw [hW]; exact rowB (heap_alloc_new w _) (below_a _ _) (by simp)
  have hr1 : W.heap[w.heap.size + 1]? = some (.cells (u8s (zerosB 32)) 24 (0, 0)) := by rw [hW]; exact hn2 w _ _
  have hb0 : Below w.heap.size w W := by rw [hW]; exact ((Below.refl w.heap.size w).alloc (Nat.le_refl _) _).alloc (by simp) _
  obtain ⟨pa, pc, rfl⟩ := hp.slice
  have hb1 := Lib.hid hb0
  have hrow := Lib.hid hr0
  have hres := Lib.hid hr1
  have hlt := Lib.hid (Array.getElem?_eq_some_iff.1 hr0).1
  have hlt1 := Lib.hid (Array.getElem?_eq_some_iff.1 hr1).1
  have hrows := Lib.hid (fun (wz : World) (h : Below W.heap.size W wz) => rowB hrow.out h hlt.out)
  have hress := Lib.hid (fun (wz : World) (h : Below W.heap.size W wz) => rowB hres.out h hlt1.out)
  have hE := Lib.hid (fun (wz : World) (hb : Below W.heap.size W wz) => opEncode_bad o fo (.slice pa o.n pc) wz ((hp.mono hb0).mono hb) h0)
  generalize chkO o = E at *
  have hEb : (E != 0) = true := by simpa using h0
  have hB := Lib.hid (Below.refl W.heap.size W)
  clear hr0 hr1 hb0 hp fo h0
  go_enter Tryz.func10, Tryz.ntmps10
  go_upto_region 1 with fail
  rw [show ∀ x : Array Value, x = u8s (zerosB 32) → (w.alloc (.cells (o.c (.slice pa o.n pc)) 35)).alloc (.cells x 24) = W from fun x hx => by rw [hx, hW]]
  rotate_left
  · kernel_rfl
  clear hW
  go_wp2_with (first | (refine wpList_load_row_g rfl 35 _ rfl w.heap.size rfl 35 (o.c (.slice pa o.n pc)) (0, 0) _ (hrows.out _ hB.out) Tryz.underlying35 rfl info_op ?_) | (go_at_call 36; (with_reducible refine (hE.out _ hB.out).mono ?_); rintro e w4 ⟨rfl, h3⟩; replace hB := Lib.hid (hB.out.trans (h3.mono hB.out.size)); clear h3) | (refine storeOver _ (w.heap.size + 1) _ rfl 24 _ _ rfl (u8s (zerosB 32)) 24 (hress.out _ hB.out) rfl rfl info_id rfl (u8s_one _) ?_; intro w5 hr5 hb5; have hr5' := Lib.hid hr5; have hb5' := Lib.hid hb5; clear hr5 hb5))
  exact bodyPost_ret (results_row_tmp rfl _ _ (w.heap.size + 1) 24 _ _ _ rfl hr5'.out Tryz.underlying24 rfl info_id) rfl ⟨rfl, hb1.out.trans ((hB.out.mono hb1.out.size).trans (hb5'.out.mono (by omega)))⟩
end Go.Proofs.YtdlblhoaddfanaaGreatDoor.wir.val
namespace Go.Proofs.YtdlblhoaddfanaaGreatDoor.wir.val
open Go.RowKit Go.YtdlblhoaddfanaaGreatDoor
set_option linter.unusedVariables false
set_option maxHeartbeats 4000000 in
set_option maxRecDepth 100000 in
theorem sameO_yes (o : Od) (hn : o.n ≤ 20) (pv qv : Value) (w : World) (hp : RdI w pv o.n o.F) (hq : RdI w qv o.n o.F) :
    Calls Tryz.prog 32 #[.agg (o.c pv), .agg (o.c qv)] w fun e w' => e = .returned (.bool true) ∧ Below w.heap.size w w' := by
  obtain ⟨pa, pc, rfl⟩ := hp.slice
  obtain ⟨qa, qc, rfl⟩ := hq.slice
  obtain ⟨W, hW⟩ : ∃ W, W = (w.alloc (.cells (o.c (.slice pa o.n pc)) 35)).alloc (.cells (o.c (.slice qa o.n qc)) 35) := ⟨_, rfl⟩
  have hr0 : W.heap[w.heap.size]? = some (.cells (o.c (.slice pa o.n pc)) 35 (0, 0)) := by rw [hW]; exact rowB (heap_alloc_new w _) (below_a _ _) (by simp)
  have hr1 : W.heap[w.heap.size + 1]? = some (.cells (o.c (.slice qa o.n qc)) 35 (0, 0)) := by rw [hW]; exact hn2 w _ _
  have hb0 : Below w.heap.size w W := by rw [hW]; exact ((Below.refl w.heap.size w).alloc (Nat.le_refl _) _).alloc (by simp) _
  have hb1 := Lib.hid hb0
  have hlt := Lib.hid (Array.getElem?_eq_some_iff.1 hr0).1
  have hlt1 := Lib.hid (Array.getElem?_eq_some_iff.1 hr1).1
  have hrows := Lib.hid (fun (wz : World) (h : Below W.heap.size W wz) => cellsO (rowB hr0 h hlt.out))
  have hress := Lib.hid (fun (wz : World) (h : Below W.heap.size W wz) => cellsO (rowB hr1 h hlt1.out))
  have hI := Lib.hid (sameIDs_any o.n o.n o.F o.F _ _ W (by omega) (hp.mono hb0) (hq.mono hb0))
  rw [sameF_self] at hI
  obtain ⟨c0, c1, c2, _, _, c9, c10⟩ := cellsO hr0
  obtain ⟨d0, d1, d2, _, _, d9, d10⟩ := cellsO hr1
  have hqA := Lib.hid (fun wz => show (binOp .eql 31 (aA o.k o.key o.v) (aA o.k o.key o.v)).run Tryz.prog wz = .ok (.bool true) wz by rw [eqlA]; simp [eqB])
  clear hr0 hr1 hb0 hp hq
  go_enter Tryz.func32, Tryz.ntmps32
  go_upto_region 1 with fail
  rw [← hW]
  clear hW
  go_wp2_with (first
    | (go_at_call 62; (with_reducible refine (hI.out).mono ?_); rintro e w3 ⟨rfl, h3⟩; have hB := Lib.hid (h3.below (Below.refl W.heap.size W)); clear h3 c0 c1 c2 c9 c10 d0 d1 d2 d9 d10; obtain ⟨c0, c1, c2, _, _, c9, c10⟩ := hrows.out _ hB.out; obtain ⟨d0, d1, d2, _, _, d9, d10⟩ := hress.out _ hB.out)
    | (refine wpList_midV rfl 31 _ rfl w.heap.size 3 rfl [.int .u8 o.k, .string o.key, .int .u8 o.v.k, .int .i64 o.v.n, .int .u64 (o.v.b : Int), .string o.v.s] _ (hrows.out _ hB.out).2.2.2.1 Tryz.underlying31 rfl info_act ?_)
    | (refine wpList_midV rfl 31 _ rfl (w.heap.size + 1) 3 rfl [.int .u8 o.k, .string o.key, .int .u8 o.v.k, .int .i64 o.v.n, .int .u64 (o.v.b : Int), .string o.v.s] _ (hress.out _ hB.out).2.2.2.1 Tryz.underlying31 rfl info_act ?_)
    | (refine wpList_midV rfl 33 _ rfl w.heap.size 9 rfl [.int .u32 (o.e : Int), .int .u32 (o.s : Int)] _ (hrows.out _ hB.out).2.2.2.2.1 Tryz.underlying33 rfl info_sig ?_)
    | (refine wpList_midV rfl 33 _ rfl (w.heap.size + 1) 9 rfl [.int .u32 (o.e : Int), .int .u32 (o.s : Int)] _ (hress.out _ hB.out).2.2.2.2.1 Tryz.underlying33 rfl info_sig ?_)
    | (refine wpList_eqlS rfl 31 _ _ rfl (aC o.k o.key o.v) (aC o.k o.key o.v) rfl rfl (by kernel_rfl) true (hqA.out _) ?_))
  go_ret
  exact ⟨rfl, hb1.out.trans (hB.out.mono hb1.out.size)⟩
/-- The two variables that digests read. -/
def GlQ (Tg Tf : TypeId) (w : World) : Prop := w.heap[2]? = some (.cells (u32s constW) Tg (0, 0)) ∧ w.heap[0]? = some (.cells firstW.cells Tf (0, 0))
theorem GlQ.mono {Tg Tf : TypeId} {w w' : World} (h : GlQ Tg Tf w) (hb : Below w.heap.size w w') : GlQ Tg Tf w' :=
  ⟨(hb.block _ (Array.getElem?_eq_some_iff.1 h.1).1).trans h.1, (hb.block _ (Array.getElem?_eq_some_iff.1 h.2).1).trans h.2⟩
end Go.Proofs.YtdlblhoaddfanaaGreatDoor.wir.val
namespace Go.Proofs.YtdlblhoaddfanaaGreatDoor.wir.val
open Go.RowKit Go.YtdlblhoaddfanaaGreatDoor
set_option linter.unusedVariables false
theorem same_true (va vb : Value) (a : List Int) (w : World) (hm : a.length ≤ 140737488355328) (h1 : RdB w va a) (h2 : RdB w vb a) :
    Calls Tryz.prog 78 #[va, vb] w fun e w' => e = .returned (.bool true) ∧ Below w.heap.size w w' := by
  have h := same_any va vb a a w hm h1 h2
  rw [sameF_self] at h
  exact h.mono fun e w' ⟨he, hd⟩ => ⟨he, hd.below (Below.refl _ _)⟩
end Go.Proofs.YtdlblhoaddfanaaGreatDoor.wir.val
namespace Go.Proofs.YtdlblhoaddfanaaGreatDoor.grp
open Go.RowKit
set_option linter.unusedVariables false
theorem inG_lt {a : Nat} (h : inG a = true) : a < GP := ((inG_iff a).1 h).2.1
theorem inG_u32 {a : Nat} (h : inG a = true) : a < 4294967296 := by have := inG_lt h; unfold GP at this; omega
theorem GP_u32 {a : Nat} (h : a < GP) : a < 4294967296 := by unfold GP at h; omega
theorem mul_ok (a b : Nat) (ha : inG a = true) (hb : inG b = true) (w : World) : Calls Tryz.prog 124 #[.int .u32 (a : Int), .int .u32 (b : Int)] w fun e w' => e = .returned (.tuple #[.int .u32 ((a * b % GP : Nat) : Int), .int .i64 0]) ∧ Grown w w' := by
  have hE0 := every_is a b w.heap.size (w.alloc (.cells #[.int .u32 (a : Int), .int .u32 (b : Int)] 25)) (inG_u32 ha) (inG_u32 hb) (by simp) (by simp)
  rw [ha, hb] at hE0
  have hE := Lib.hid hE0; have la := Lib.hid (inG_lt ha); have lb := Lib.hid (inG_lt hb)
  clear hE0 ha hb
  go_enter Tryz.func124, Tryz.ntmps124
  go_wp2_with (first | (go_at_call 147; refine (hE.out).mono ?_; rintro e w' ⟨rfl, g1⟩; have g1' := Lib.hid g1; clear g1) | (go_at_call 149; refine (products_any _ _).mono ?_; rintro e w' ⟨rfl, rfl⟩) | (go_at_call 178; refine (times_GP _ _ _ _ (by simp) la.out lb.out).mono ?_; rintro e w' ⟨rfl, rfl⟩))
  go_ret2
  exact ⟨rfl, (Grown.trans' ((Grown.refl _).alloc _ _) g1'.out).alloc _ _⟩
theorem pow_ok (a n : Nat) (ha : inG a = true) (hn : n < 18446744073709551616) (w : World) : Calls Tryz.prog 122 #[.int .u32 (a : Int), .int .u64 (n : Int)] w fun e w' => e = .returned (.tuple #[.int .u32 (pw a n : Int), .int .i64 0]) ∧ Grown w w' := by
  have hI0 := is_any a (inG_u32 ha)
  rw [ha] at hI0
  have hI := Lib.hid hI0; have hP := Lib.hid (power_any a n (inG_lt ha) hn)
  clear hI0 ha hn
  go_enter Tryz.func122, Tryz.ntmps122
  go_wp2_with (first | (go_at_call 76; refine (hI.out _).mono ?_; rintro e w' ⟨rfl, g1⟩; have g1' := Lib.hid g1; clear g1) | (go_at_call 111; refine (hP.out _).mono ?_; rintro e w' ⟨rfl, g2⟩; have g2' := Lib.hid g2; clear g2))
  go_ret2
  exact ⟨rfl, Grown.trans' g1'.out g2'.out⟩
theorem inv_ok (a : Nat) (ha : inG a = true) (w : World) : Calls Tryz.prog 123 #[.int .u32 (a : Int)] w fun e w' => e = .returned (.tuple #[.int .u32 (pw a 500000002 : Int), .int .i64 0]) ∧ Grown w w' := by
  have hP := Lib.hid (pow_ok a 500000002 ha (by decide))
  clear ha
  go_enter Tryz.func123, Tryz.ntmps123
  go_wp2_with (go_at_call 122; refine (hP.out _).mono ?_; rintro e w' ⟨rfl, g1⟩; have g1' := Lib.hid g1; clear g1)
  go_ret2
  exact ⟨rfl, g1'.out⟩
theorem base_any (n : Nat) (hn : n < 18446744073709551616) (w : World) : Calls Tryz.prog 106 #[.int .u64 (n : Int)] w fun e w' => e = .returned (.int .u32 (pw 4 n : Int)) ∧ Grown w w' := by
  have hP := Lib.hid (power_any 4 n (by decide) hn)
  clear hn
  go_enter Tryz.func106, Tryz.ntmps106
  go_wp2_with (go_at_call 111; refine (hP.out _).mono ?_; rintro e w' ⟨rfl, g1⟩; have g1' := Lib.hid g1; clear g1)
  go_ret
  exact ⟨rfl, g1'.out⟩
end Go.Proofs.YtdlblhoaddfanaaGreatDoor.grp
namespace Go.Proofs.YtdlblhoaddfanaaGreatDoor.grp
open Go.RowKit
set_option linter.unusedVariables false
/-- the group's test, for numbers as' the walk spells them -/
def inGI (x : Int) : Bool := inG x.toNat
theorem pw_eq (a n : Nat) (hn : n < 2 ^ 64) : pw a n = pwF 64 1 a n := by
  rw [pwF_eq 64 1 a n hn (by decide), Nat.one_mul]; exact (Nat.mod_eq_of_lt (pw_lt _ _)).symm
theorem inG_eq (a : Nat) : inG a = decide (1 ≤ a ∧ a < GP ∧ pwF 64 1 a 500000003 = 1) := by unfold inG; rw [pw_eq _ _ (by decide)]
theorem in4 : inG 4 = true := by rw [inG_eq]; decide +kernel
theorem in5 : inGI 5 = false := by rw [show inGI 5 = inG 5 from rfl, inG_eq]; decide +kernel
end Go.Proofs.YtdlblhoaddfanaaGreatDoor.grp
namespace Go.Proofs.YtdlblhoaddfanaaGreatDoor.grp
open Go.RowKit
set_option linter.unusedVariables false
theorem inv_mul (a : Nat) (h : inG a = true) : a * pw a 500000002 % GP = 1 := by
  obtain ⟨_, hl, h⟩ := (inG_iff a).1 h
  have e := pw_add a 1 500000002
  rw [pw_one a hl, show 1 + 500000002 = 500000003 from rfl, h] at e
  exact e.symm
end Go.Proofs.YtdlblhoaddfanaaGreatDoor.grp
namespace Go.Proofs.YtdlblhoaddfanaaGreatDoor
open Go.RowKit Go.YtdlblhoaddfanaaGreatDoor
set_option linter.unusedVariables false
variable {Tg Tf : TypeId}
def numN (D : List Int) : Nat → Int
  | 0 => 0
  | k + 1 => numN D k * 256 + ith D k
theorem numN_in (D : List Int) (hD : Bytes D) (k : Nat) : 0 ≤ numN D k ∧ numN D k < 256 ^ k := by
  induction k with
  | zero => exact ⟨Int.le_refl _, by rw [Int.pow_zero]; exact Int.zero_lt_one⟩
  | succ k ih =>
    have h := hD k
    show 0 ≤ numN D k * 256 + ith D k ∧ numN D k * 256 + ith D k < 256 ^ (k + 1)
    rw [Int.pow_succ]; omega
theorem numN_7 (D : List Int) (hD : Bytes D) (k : Nat) (hk : k ≤ 7) : 0 ≤ numN D k ∧ numN D k < 72057594037927936 := by
  have h := numN_in D hD k
  refine ⟨h.1, Int.lt_of_lt_of_le h.2 ?_⟩
  have h2 : (256 : Nat) ^ k ≤ 72057594037927936 := (show (256 : Nat) ^ k ≤ 256 ^ 7 from Nat.pow_le_pow_right (by decide) hk)
  rw [show (256 : Int) ^ k = ((256 ^ k : Nat) : Int) by rw [Int.natCast_pow]; rfl]
  exact Int.ofNat_le.2 h2
set_option maxRecDepth 10000 in
theorem or_byte (x b : Int) (hx : 0 ≤ x ∧ x < 72057594037927936) (hb : 0 ≤ b ∧ b < 256) : bits BinOp.or IntKind.u64 (x * 256) b = x * 256 + b := by
  obtain ⟨n, rfl⟩ := Int.eq_ofNat_of_zero_le hx.1
  obtain ⟨m, rfl⟩ := Int.eq_ofNat_of_zero_le hb.1
  have h1 : (BitVec.ofInt 64 ((n : Int) * 256)).toNat = 2 ^ 8 * n := by
    rw [show (n : Int) * 256 = ((2 ^ 8 * n : Nat) : Int) by omega, BitVec.ofInt_natCast, BitVec.toNat_ofNat]; omega
  have h2 : (BitVec.ofInt 64 (m : Int)).toNat = m := by
    rw [BitVec.ofInt_natCast, BitVec.toNat_ofNat]; omega
  show IntKind.u64.wrap ((BitVec.ofInt 64 ((n : Int) * 256) ||| BitVec.ofInt 64 (m : Int)).toNat : Int) = _
  rw [BitVec.toNat_or, h1, h2, ← Nat.two_pow_add_eq_or_of_lt (by omega) n, IntKind.wrap_u64]
  omega
set_option maxRecDepth 100000 in
theorem numberOf_any (D : List Int) (w : World) (hl : D.length = 32) (hD : Bytes D) :
    Calls Tryz.prog 177 #[.agg (u8s D)] w fun e w' => e = .returned (.int .u64 (numN D 8)) ∧ Below w.heap.size w w' := by
  have hc := fun k (hk : k < 32) => (show (w.alloc (.cells (u8s D) 24)).cell? ⟨w.heap.size, k, none⟩ = some (.int .u8 (ith D k)) from by
    rw [cell_of_row _ _ _ _ _ _ (heap_alloc_new w _)]; exact u8s_get _ _ (by omega))
  have hc' := Lib.hid hc; have hl' := Lib.hid hl; have hD' := Lib.hid hD
  clear hc hl hD
  go_enter Tryz.func177, Tryz.ntmps177
  go_wp2
  go_loop [3, 8] (fun n i => ∃ k : Nat, k ≤ 8 ∧ i = .int .i64 k ∧ n = .int .u64 (numN D k)) (fun _ i => match i with | .int _ m => 8 - m.toNat | _ => 0)
  case atStart => exact ⟨0, by omega, rfl, rfl⟩
  case round =>
    obtain ⟨k, hk, rfl, rfl⟩ := hrel
    by_cases hlt : k < 8
    · have hck := hc'.out k (by omega)
      have hb := hD'.out k
      have hx := numN_7 D hD'.out k (by omega)
      have hor := Lib.hid (or_byte _ _ hx hb)
      have hnx : numN D (k + 1) = numN D k * 256 + ith D k := rfl
      generalize hY : numN D (k + 1) = y at hnx
      generalize hX : numN D k = x at *
      have hnx' := Lib.hid hnx; have hY' := Lib.hid hY
      clear hnx hX hY
      generalize ith D k = b at *
      go_wp2
      refine ⟨⟨k + 1, by omega, rfl, ?_⟩, ?_⟩
      · rw [hor.out, ← hnx'.out, hY'.out]
      · show 8 - ((k : Int) + 1).toNat < 8 - (k : Int).toNat
        omega
    · obtain rfl : k = 8 := by omega
      go_wp2
      go_ret
      exact ⟨rfl, (Below.refl _ _).alloc (Nat.le_refl _) _⟩
theorem tooLong_any (a : Option Addr) (n c : Nat) (w : World) : Calls Tryz.prog 87 #[.slice a n c] w fun e w' => e = .returned (.bool (decide (9991 < n))) ∧ w' = w := by
  go_enter Tryz.func87, Tryz.ntmps87
  go_wp2
  go_ret
  exact ⟨by congr 2; simp; omega, rfl⟩
theorem check_any (a : Nat) (w : World) : Calls Tryz.prog 105 #[.int .u32 (a : Int)] w fun e w' => e = .returned (.int .i64 (if 1 ≤ a ∧ a < 500000003 then 0 else 2)) ∧ w' = w := by
  by_cases h : 1 ≤ a ∧ a < 500000003
  · rw [if_pos h]
    obtain ⟨h1, h2⟩ := h
    go_enter Tryz.func105, Tryz.ntmps105
    go_wp2
    all_goals
      go_ret
      exact ⟨rfl, rfl⟩
  · rw [if_neg h]
    by_cases h1 : a = 0
    · subst h1
      go_enter Tryz.func105, Tryz.ntmps105
      go_wp2
      all_goals
        go_ret
        exact ⟨rfl, rfl⟩
    · have h2 : ¬ a < 500000003 := by omega
      have h3 : 1 ≤ a := by omega
      clear h h1
      go_enter Tryz.func105, Tryz.ntmps105
      go_wp2
      all_goals
        go_ret
        exact ⟨rfl, rfl⟩
end Go.Proofs.YtdlblhoaddfanaaGreatDoor
namespace Go.Proofs.YtdlblhoaddfanaaGreatDoor
open Go.RowKit Go.YtdlblhoaddfanaaGreatDoor
set_option linter.unusedVariables false
variable {Tg Tf : TypeId}
def headF (mark : Int) (nums : List Int) : Nat → List Int
  | 0 => [mark]
  | k + 1 => headF mark nums k ++ be4 (ith nums k)
theorem headF_length (mark : Int) (nums : List Int) (k : Nat) : (headF mark nums k).length = 4 * k + 1 := by
  induction k with
  | zero => rfl
  | succ k ih => simp [headF, ih, be4]; omega
theorem list_all32 (v : V8) (h : v.ok) : All32 v.list := by
  obtain ⟨h0, h1, h2, h3, h4, h5, h6, h7⟩ := h
  intro i
  match i with
  | 0 => exact h0
  | 1 => exact h1
  | 2 => exact h2
  | 3 => exact h3
  | 4 => exact h4
  | 5 => exact h5
  | 6 => exact h6
  | 7 => exact h7
  | i + 8 => rw [ith_over _ _ (by simp [V8.list])]; exact ⟨by omega, by omega⟩
theorem shaF_bytes (l : List Int) : Bytes (shaF l) := writtenN_bytes _ 8 (list_all32 _ (blocksF_ok _ _ (blocksF_ok _ _ firstW_ok)))
theorem headF_bytes (mark : Int) (nums : List Int) (hm : 0 ≤ mark ∧ mark < 256) (hn : All32 nums) (k : Nat) : Bytes (headF mark nums k) := by
  induction k with
  | zero => exact bytes_one _ hm
  | succ k ih => exact bytes_append _ _ ih (be4_bytes _ (hn k))
theorem rd_four (w : World) (a b c d : Int) : RdB (w.alloc (.cells #[.int .u8 a, .int .u8 b, .int .u8 c, .int .u8 d] 5)) (.slice (some ⟨w.heap.size, 0, none⟩) 4 4) [a, b, c, d] := .inr ⟨w.heap.size, 0, 4, rfl, Nat.le_refl _, by decide, by simp, fun i hi => by
  rw [Nat.zero_add, cell_of_row _ _ _ _ _ _ (heap_alloc_new w _)]
  match i, hi with
  | 0, _ => rfl
  | 1, _ => rfl
  | 2, _ => rfl
  | 3, _ => rfl⟩
theorem rd_two (w : World) (v1 v2 : Value) (a b : List Int) (h1 : RdB w v1 a) (h2 : RdB w v2 b) (la : a.length ≤ 10000) (lb : b.length ≤ 10000) (ba : Bytes a) (bb : Bytes b)
    (hg : w.heap[2]? = some (.cells (u32s constW) Tg (0, 0))) (hgf : w.heap[0]? = some (.cells firstW.cells Tf (0, 0))) :
    Calls Tryz.prog 79 #[.slice (some ⟨w.heap.size, 0, none⟩) 2 2] (w.alloc (.cells #[v1, v2] 79)) fun e w' => e = .returned (.tuple #[.agg (u8s (shaF (a ++ b))), .int .i64 0]) ∧ Below w.heap.size w w' := by
  have hB : Below w.heap.size w (w.alloc (.cells #[v1, v2] 79)) := (Below.refl _ _).alloc (Nat.le_refl _) _
  have h := pieces_any (Tg := Tg) (Tf := Tf) [a, b] (.slice (some ⟨w.heap.size, 0, none⟩) 2 2) w.heap.size 0 2 rfl (w.alloc (.cells #[v1, v2] 79)) (Nat.le_refl _) (by decide) (by simp) (fun i hi => by
    rw [Nat.zero_add]
    match i, hi with
    | 0, _ => exact ⟨_, cell_of_row _ _ _ _ _ _ (heap_alloc_new w _), h1.mono hB⟩
    | 1, _ => exact ⟨_, cell_of_row _ _ _ _ _ _ (heap_alloc_new w _), h2.mono hB⟩) (show 2 ≤ 20 by decide) (fun i => by
    match i with
    | 0 => exact la
    | 1 => exact lb
    | n + 2 => simp [nthL]) (fun i => by
    match i with
    | 0 => exact ba
    | 1 => exact bb
    | n + 2 => intro j; simp [nthL, ith]) ((hB.block _ (Array.getElem?_eq_some_iff.1 hg).1).trans hg) ((hB.block _ (Array.getElem?_eq_some_iff.1 hgf).1).trans hgf)
  rw [show ([a, b] : List (List Int)).flatten = a ++ b by simp] at h
  refine h.mono ?_
  rintro e w' ⟨rfl, hb⟩
  exact ⟨rfl, hB.trans (hb.mono (by simp))⟩
def hashF (mark : Int) (nums m : List Int) : Int := numN (shaF (headF mark nums nums.length ++ m)) 8
set_option maxRecDepth 100000 in
set_option maxHeartbeats 1000000 in
theorem hash_any (mark : Int) (nums m : List Int) (bn : Nat) (TU : TypeId) (mv : Value) (w : World) (hm : RdB w mv m) (hmb : Bytes m) (hml : m.length ≤ 9991) (hmk : 0 ≤ mark ∧ mark < 256) (hn2 : nums.length ≤ 2) (hn32 : All32 nums)
    (hn : w.heap[bn]? = some (.cells (u32s nums) TU (0, 0)))
    (hg : w.heap[2]? = some (.cells (u32s constW) Tg (0, 0))) (hgf : w.heap[0]? = some (.cells firstW.cells Tf (0, 0))) :
    Calls Tryz.prog 146 #[.int .u8 mark, mv, .slice (some ⟨bn, 0, none⟩) nums.length nums.length] w fun e w' => e = .returned (.int .u64 (hashF mark nums m)) ∧ Below w.heap.size w w' := by
  obtain ⟨ma, mc, rfl⟩ := hm.slice
  have hbn : bn < w.heap.size := (Array.getElem?_eq_some_iff.1 hn).1
  have e0 : OwnB w.heap.size 5 (w.alloc (.cells #[.int .u8 mark] 5)) (.slice (some ⟨w.heap.size, 0, none⟩) 1 1) (headF mark nums 0) :=
    ⟨rfl, .inr ⟨w.heap.size, 1, _, rfl, Nat.le_refl _, heap_alloc_new w _, Nat.le_refl _, by decide, rfl, rfl⟩⟩
  have e0' := Lib.hid e0; have hm' := Lib.hid hm; have hn' := Lib.hid hn; have hn32' := Lib.hid hn32; have hmb' := Lib.hid hmb; have hg' := Lib.hid hg; have hgf' := Lib.hid hgf
  clear e0 hm hn hn32 hmb hg hgf
  go_enter Tryz.func146, Tryz.ntmps146
  go_wp2
  go_loopw [7, 16] (fun h i wr => ∃ k : Nat, k ≤ nums.length ∧ i = .int .i64 k ∧ OwnB w.heap.size 5 wr h (headF mark nums k) ∧ Below w.heap.size w wr) (fun _ i _ => match i with | .int _ q => nums.length - q.toNat | _ => 0)
  case atStart => exact ⟨0, Nat.zero_le _, rfl, e0'.out, (Below.refl _ _).alloc (Nat.le_refl _) _⟩
  case round =>
    obtain ⟨k, hk, rfl, ho, hb⟩ := hrel
    obtain ⟨sa, sc, rfl⟩ := ho.rd.slice
    have hlen := headF_length mark nums k
    have hbd : (headF mark nums k).length + 4 ≤ 140737488355328 := by omega
    have hbd' := Lib.hid hbd
    generalize hHL : (headF mark nums k).length = hl at ho hlen ⊢
    have hHL' := Lib.hid hHL; have hlen' := Lib.hid hlen
    clear hHL hlen hbd
    by_cases hlt : k < nums.length
    · have hcell : wr.cell? ⟨bn, k, none⟩ = some (.int .u32 (ith nums k)) := by
        rw [cell_of_row _ _ _ _ _ _ ((hb.block _ hbn).trans hn'.out)]
        rw [u32s_eq]; simpa using u32v_get nums k hlt
      have hx := hn32'.out k
      generalize hX : ith nums k = x at hcell hx
      have hX' := Lib.hid hX; clear hX
      have ho' := Lib.hid ho; have hb' := Lib.hid hb; have hzw := hb.size
      clear ho hb
      obtain ⟨hx0, hx1⟩ := hx
      go_wp2_with (refine appendB rfl _ _ 79 rfl w.heap.size 5 Tryz.underlying79 (by kernel_rfl) _ rfl _ (ho'.out.kept ((Below.refl _ _).alloc (Nat.le_refl _) _)) _ rfl _ (rd_four _ _ _ _ _) (by exact hbd'.out) (by simp; omega) ?_)
      intro v' w' h1 h2
      have hb2 := (ho'.out.kept ((Below.refl _ _).alloc (Nat.le_refl _) _)).below h2 (by simp; omega)
      have h3 : OwnB w.heap.size 5 w' v' (headF mark nums (k + 1)) := by
        have e2 : headF mark nums (k + 1) = headF mark nums k ++ be4 x := by rw [← hX'.out]; rfl
        rw [e2]; exact h1
      have h3' := Lib.hid h3; have hB2 := Lib.hid (hb'.out.trans (((Below.refl _ _).alloc hzw _).trans hb2))
      obtain ⟨va, vc, rfl⟩ := h3.rd.slice
      clear h1 h2 hb2 h3 ho' hX' hHL' hlen' hbd' hcell
      refine Stop.go ?_
      go_wp2
      go_roundw
      case rel => exact ⟨k + 1, by omega, rfl, h3'.out, hB2.out⟩
      case measure => simp; omega
    · obtain rfl : k = nums.length := by omega
      have hg1 := Lib.hid ((hb.block _ (Array.getElem?_eq_some_iff.1 hg'.out).1).trans hg'.out)
      have hgf1 := Lib.hid ((hb.block _ (Array.getElem?_eq_some_iff.1 hgf'.out).1).trans hgf'.out)
      have hm1 := Lib.hid (hm'.out.mono hb)
      have ho1 := Lib.hid ho.rd
      have hB := Lib.hid hb
      have hzw := hb.size
      have hF := Lib.hid (show hashF mark nums m = numN (shaF (headF mark nums nums.length ++ m)) 8 from rfl)
      have hH := Lib.hid (headF_bytes mark nums hmk hn32'.out nums.length)
      have hHl : (headF mark nums nums.length).length ≤ 10000 := by rw [hHL'.out, hlen'.out]; omega
      have hHl' := Lib.hid hHl
      have hp := Lib.hid (rd_two wr (.slice sa hl sc) (.slice ma m.length mc) _ _ ho1.out hm1.out hHl'.out (by omega) hH.out hmb'.out hg1.out hgf1.out)
      have hDl := Lib.hid (shaF_length (headF mark nums nums.length ++ m))
      have hDb := Lib.hid (shaF_bytes (headF mark nums nums.length ++ m))
      clear ho hb ho1 hm1 hg1 hgf1 hH hHl hHl' hHL' hlen' hbd'
      generalize shaF (headF mark nums nums.length ++ m) = D at *
      have hi := Lib.hid (show (Tryz.prog.info? 24).map (·.size) = some (u8s D).size from by rw [u8s_size, hDl.out]; kernel_rfl)
      have hs2 := Lib.hid (show 32 = (u8s D).size by rw [u8s_size, hDl.out])
      go_wp2_with (first | (go_at_call 79; refine (hp.out).mono ?_; rintro e w1 ⟨rfl, hb1⟩; have hb1' := Lib.hid hb1; have hz1 := hb1.size; clear hb1) | (refine storeNew w1 rfl 24 _ _ rfl (u8s D) 24 rfl rfl hi.out (Eq.trans (by kernel_rfl) hs2.out) (u8s_one _) ?_; intro wx hr hb2; have hq := Lib.hid hr; have hb2' := Lib.hid hb2; clear hr hb2; refine Stop.go' _ ?_))
      refine Stop.go ?_
      have hB3 := Lib.hid (hB.out.trans ((hb1'.out.mono hzw).trans (hb2'.out.mono (Nat.le_trans hzw hz1))))
      have hzx := hB3.out.size
      clear hb1' hb2' hp hs2
      go_wp2_with (first | (refine wpList_load_row rfl 24 _ rfl w1.heap.size rfl 24 (u8s D) (0, 0) _ hq.out Tryz.underlying24 rfl hi.out ?_) | (go_at_call 177; refine (numberOf_any D _ hDl.out hDb.out).mono ?_; rintro e w2 ⟨rfl, hb3⟩; have hb3' := Lib.hid hb3; clear hb3))
      go_ret
      exact ⟨ret_int hF.out.symm, hB3.out.trans (hb3'.out.mono hzx)⟩
end Go.Proofs.YtdlblhoaddfanaaGreatDoor
namespace Go.Proofs.YtdlblhoaddfanaaGreatDoor
open Go.RowKit Go.YtdlblhoaddfanaaGreatDoor
set_option linter.unusedVariables false
/-- The listed variables as' they are laid. -/
def GlobW (w : World) : Prop := ∃ Tg Tf : TypeId, w.heap[2]? = some (.cells (u32s constW) Tg (0, 0)) ∧ w.heap[0]? = some (.cells firstW.cells Tf (0, 0))
theorem GlobW.mono {w w' : World} (h : GlobW w) (hb : Below w.heap.size w w') : GlobW w' := by
  obtain ⟨Tg, Tf, h1, h2⟩ := h
  exact ⟨Tg, Tf, (hb.block _ (Array.getElem?_eq_some_iff.1 h1).1).trans h1, (hb.block _ (Array.getElem?_eq_some_iff.1 h2).1).trans h2⟩
def hN (mark : Int) (nums m : List Int) : Nat := (hashF mark nums m).toNat
theorem hN_eq (mark : Int) (nums m : List Int) : hashF mark nums m = (hN mark nums m : Int) := by
  have h := numN_in (shaF (headF mark nums nums.length ++ m)) (shaF_bytes _) 8
  exact (Int.toNat_of_nonneg h.1).symm
def nonceN (a : Nat) (m : List Int) : Nat := hN 110 [(a : Int)] m % 500000002 + 1
def chalN (r y : Nat) (m : List Int) : Nat := hN 99 [(r : Int), (y : Int)] m % 500000003
theorem all32_1 (a : Nat) (ha : a < 4294967296) : All32 [(a : Int)] := all32_snoc [] _ (fun i => by simp [ith, In32]) ⟨by omega, by omega⟩
theorem all32_2 (a b : Nat) (ha : a < 4294967296) (hb : b < 4294967296) : All32 [(a : Int), (b : Int)] := all32_snoc [(a : Int)] _ (all32_1 a ha) ⟨by omega, by omega⟩
theorem hash1 (mark : Int) (hmk : 0 ≤ mark ∧ mark < 256) (a : Nat) (ha : a < 4294967296) (mv : Value) (m : List Int) (w : World) (hm : RdB w mv m) (hmb : Bytes m) (hml : m.length ≤ 9991) (hgl : GlobW w) :
    Calls Tryz.prog 146 #[.int .u8 mark, mv, .slice (some ⟨w.heap.size, 0, none⟩) 1 1] (w.alloc (.cells #[.int .u32 (a : Int)] 25)) fun e w' => e = .returned (.int .u64 (hN mark [(a : Int)] m : Int)) ∧ Below w.heap.size w w' := by
  have hB : Below w.heap.size w (w.alloc (.cells #[.int .u32 (a : Int)] 25)) := (Below.refl _ _).alloc (Nat.le_refl _) _
  obtain ⟨Tg, Tf, h1, h2⟩ := hgl.mono hB
  rw [← hN_eq]
  exact (hash_any (Tg := Tg) (Tf := Tf) mark [(a : Int)] m w.heap.size _ mv _ (hm.mono hB) hmb hml hmk (by simp) (all32_1 a ha) (heap_alloc_new w _) h1 h2).mono fun e w' ⟨he, hb⟩ => ⟨he, hB.trans (hb.mono (by simp))⟩
theorem hash2 (mark : Int) (hmk : 0 ≤ mark ∧ mark < 256) (a b : Nat) (ha : a < 4294967296) (hb : b < 4294967296) (mv : Value) (m : List Int) (w : World) (hm : RdB w mv m) (hmb : Bytes m) (hml : m.length ≤ 9991) (hgl : GlobW w) :
    Calls Tryz.prog 146 #[.int .u8 mark, mv, .slice (some ⟨w.heap.size, 0, none⟩) 2 2] (w.alloc (.cells #[.int .u32 (a : Int), .int .u32 (b : Int)] 25)) fun e w' => e = .returned (.int .u64 (hN mark [(a : Int), (b : Int)] m : Int)) ∧ Below w.heap.size w w' := by
  have hB : Below w.heap.size w (w.alloc (.cells #[.int .u32 (a : Int), .int .u32 (b : Int)] 25)) := (Below.refl _ _).alloc (Nat.le_refl _) _
  obtain ⟨Tg, Tf, h1, h2⟩ := hgl.mono hB
  rw [← hN_eq]
  exact (hash_any (Tg := Tg) (Tf := Tf) mark [(a : Int), (b : Int)] m w.heap.size _ mv _ (hm.mono hB) hmb hml hmk (by simp) (all32_2 a b ha hb) (heap_alloc_new w _) h1 h2).mono fun e w' ⟨he, hb⟩ => ⟨he, hB.trans (hb.mono (by simp))⟩
theorem ret_pair {a b c : Int} (h : a = b) : Ending.returned (.tuple #[.int .u32 a, .int .i64 c]) = .returned (.tuple #[.int .u32 b, .int .i64 c]) := by rw [h]
theorem check_ok (a : Nat) (h : 1 ≤ a ∧ a < 500000003) (w : World) : Calls Tryz.prog 105 #[.int .u32 (a : Int)] w fun e w' => e = .returned (.int .i64 0) ∧ w' = w := by
  have := check_any a w; rw [if_pos h] at this; exact this
theorem check_bad (a : Nat) (h : ¬ (1 ≤ a ∧ a < 500000003)) (w : World) : Calls Tryz.prog 105 #[.int .u32 (a : Int)] w fun e w' => e = .returned (.int .i64 2) ∧ w' = w := by
  have := check_any a w; rw [if_neg h] at this; exact this
theorem public_ok (a : Nat) (h : 1 ≤ a ∧ a < 500000003) (w : World) : Calls Tryz.prog 72 #[.int .u32 (a : Int)] w fun e w' => e = .returned (.tuple #[.int .u32 (grp.pw 4 a : Int), .int .i64 0]) ∧ Below w.heap.size w w' := by
  have hc := Lib.hid (check_ok a h); have hp := Lib.hid (grp.base_any a (by omega))
  have h0 : 1 ≤ a := h.1; have h1 : a < 4294967296 := by omega
  clear h
  go_enter Tryz.func72, Tryz.ntmps72
  go_wp2_with (first | (go_at_call 105; refine (hc.out _).mono ?_; rintro e w' ⟨rfl, rfl⟩) | (go_at_call 106; refine (hp.out _).mono ?_; rintro e w' ⟨rfl, g1⟩; have g1' := Lib.hid g1; clear g1))
  go_ret2
  exact ⟨rfl, g1'.out⟩
theorem public_bad (a : Nat) (h : ¬ (1 ≤ a ∧ a < 500000003)) (w : World) : Calls Tryz.prog 72 #[.int .u32 (a : Int)] w fun e w' => e = .returned (.tuple #[.int .u32 0, .int .i64 2]) ∧ w' = w := by
  have hc := Lib.hid (check_bad a h)
  clear h
  go_enter Tryz.func72, Tryz.ntmps72
  go_wp2_with (first | (go_at_call 105; refine (hc.out _).mono ?_; rintro e w' ⟨rfl, rfl⟩))
  go_ret2
  exact ⟨rfl, rfl⟩
theorem nonce_ok (a : Nat) (h : 1 ≤ a ∧ a < 500000003) (mv : Value) (m : List Int) (w : World) (hm : RdB w mv m) (hmb : Bytes m) (hml : m.length ≤ 9991) (hgl : GlobW w) :
    Calls Tryz.prog 107 #[.int .u32 (a : Int), mv] w fun e w' => e = .returned (.tuple #[.int .u32 (nonceN a m : Int), .int .i64 0]) ∧ Below w.heap.size w w' := by
  obtain ⟨ma, mc, rfl⟩ := hm.slice
  have hc := Lib.hid (check_ok a h)
  have hl0 := tooLong_any ma m.length mc
  rw [decide_eq_false (by omega)] at hl0
  have hl := Lib.hid hl0
  have hh := Lib.hid (hash1 110 (by decide) a (by omega) _ m w hm hmb hml hgl)
  unfold nonceN
  clear h hl0 hm hmb hml hgl
  generalize hN 110 [(a : Int)] m = H at *
  generalize m.length = n at *
  go_enter Tryz.func107, Tryz.ntmps107
  go_wp2_with (first | (go_at_call 105; refine (hc.out _).mono ?_; rintro e w' ⟨rfl, rfl⟩) | (go_at_call 87; refine (hl.out _).mono ?_; rintro e w' ⟨rfl, rfl⟩) | (go_at_call 146; refine (hh.out).mono ?_; rintro e w' ⟨rfl, g1⟩; have g1' := Lib.hid g1; clear g1))
  go_ret2
  exact ⟨ret_pair (by omega), g1'.out⟩
theorem chal_ok (r y : Nat) (hr : r < 4294967296) (hy : y < 4294967296) (mv : Value) (m : List Int) (w : World) (hm : RdB w mv m) (hmb : Bytes m) (hml : m.length ≤ 9991) (hgl : GlobW w) :
    Calls Tryz.prog 108 #[.int .u32 (r : Int), .int .u32 (y : Int), mv] w fun e w' => e = .returned (.tuple #[.int .u32 (chalN r y m : Int), .int .i64 0]) ∧ Below w.heap.size w w' := by
  obtain ⟨ma, mc, rfl⟩ := hm.slice
  have hl0 := tooLong_any ma m.length mc
  rw [decide_eq_false (by omega)] at hl0
  have hl := Lib.hid hl0
  have hh := Lib.hid (hash2 99 (by decide) r y hr hy _ m w hm hmb hml hgl)
  unfold chalN
  clear hr hy hl0 hm hmb hml hgl
  generalize hN 99 [(r : Int), (y : Int)] m = H at *
  generalize m.length = n at *
  go_enter Tryz.func108, Tryz.ntmps108
  go_wp2_with (first | (go_at_call 87; refine (hl.out _).mono ?_; rintro e w' ⟨rfl, rfl⟩) | (go_at_call 146; refine (hh.out).mono ?_; rintro e w' ⟨rfl, g1⟩; have g1' := Lib.hid g1; clear g1))
  go_ret2
  exact ⟨ret_pair (by omega), g1'.out⟩
end Go.Proofs.YtdlblhoaddfanaaGreatDoor
namespace Go.Proofs.YtdlblhoaddfanaaGreatDoor
open Go.RowKit Go.YtdlblhoaddfanaaGreatDoor
set_option linter.unusedVariables false
/-- The world 'wi' has what 'w' had, and a row of its own. -/
def Row1 (w wi : World) (cs : Array Value) (T : TypeId) : Prop := Below w.heap.size w wi ∧ wi.heap[w.heap.size]? = some (.cells cs T (0, 0))
theorem Row1.start (w : World) (cs : Array Value) (T : TypeId) : Row1 w (w.alloc (.cells cs T)) cs T := ⟨(Below.refl _ _).alloc (Nat.le_refl _) _, heap_alloc_new w _⟩
theorem Row1.step {w wi wj : World} {cs : Array Value} {T : TypeId} (h : Row1 w wi cs T) (hb : Below wi.heap.size wi wj) : Row1 w wj cs T :=
  ⟨h.1.trans (hb.mono h.1.size), (hb.block _ (Array.getElem?_eq_some_iff.1 h.2).1).trans h.2⟩
theorem Row1.set {w wi : World} {cs : Array Value} {T : TypeId} (h : Row1 w wi cs T) (ds : Array Value) : Row1 w (wi.setRow w.heap.size ds) ds T :=
  ⟨below_setRow' (g := w.heap.size) h.1 (Nat.le_refl _) _, setRow_heap _ _ _ _ _ _ h.2⟩
def eN (a : Nat) (m : List Int) : Nat := chalN (grp.pw 4 (nonceN a m)) (grp.pw 4 a) m
def sN (a : Nat) (m : List Int) : Nat := (nonceN a m + eN a m * a % 500000003) % 500000003
theorem nonceN_lt (a : Nat) (m : List Int) : 1 ≤ nonceN a m ∧ nonceN a m < 500000003 := by unfold nonceN; omega
theorem chalN_lt (r y : Nat) (m : List Int) : chalN r y m < 500000003 := Nat.mod_lt _ (by decide)
theorem pw_u32 (a n : Nat) : grp.pw a n < 4294967296 := grp.GP_u32 (grp.pw_lt a n)
theorem two_one (a b : Int) : (#[Value.int .u32 a, Value.int .u32 b] : Array Value).all (·.oneCell') = true := u32s_one [a, b]
theorem sig_info : (Tryz.prog.info? 33).map (·.size) = some 2 := by kernel_rfl
set_option maxHeartbeats 1000000 in
theorem sign_ok (a : Nat) (h : 1 ≤ a ∧ a < 500000003) (mv : Value) (m : List Int) (w : World) (hm : RdB w mv m) (hmb : Bytes m) (hml : m.length ≤ 9991) (hgl : GlobW w) :
    Calls Tryz.prog 73 #[.int .u32 (a : Int), mv] w fun e w' => e = .returned (.tuple #[.agg #[.int .u32 (eN a m : Int), .int .u32 (sN a m : Int)], .int .i64 0]) ∧ Below w.heap.size w w' := by
  obtain ⟨ma, mc, rfl⟩ := hm.slice
  unfold sN
  have hk := nonceN_lt a m
  have hN := Lib.hid (fun wi (o : Row1 w wi #[.int .u32 0, .int .u32 0] 33) => nonce_ok a h _ m wi (hm.mono o.1) hmb hml (hgl.mono o.1))
  have hC := Lib.hid (fun wi (o : Row1 w wi #[.int .u32 0, .int .u32 0] 33) => chal_ok (grp.pw 4 (nonceN a m)) (grp.pw 4 a) (pw_u32 _ _) (pw_u32 _ _) _ m wi (hm.mono o.1) hmb hml (hgl.mono o.1))
  have hE : chalN (grp.pw 4 (nonceN a m)) (grp.pw 4 a) m = eN a m := rfl
  rw [hE] at hC
  have he := chalN_lt (grp.pw 4 (nonceN a m)) (grp.pw 4 a) m
  rw [hE] at he
  clear hE
  generalize eN a m = E at *
  generalize nonceN a m = K at *
  have hK := Lib.hid (grp.base_any K (by omega)); have hA := Lib.hid (grp.base_any a (by omega))
  generalize grp.pw 4 K = R at *
  generalize grp.pw 4 a = Y at *
  have hT := Lib.hid (grp.times_ok E a he h.2)
  have hP := Lib.hid (grp.plus_ok K (E * a % 500000003) hk.2 (Nat.mod_lt _ (by decide)))
  generalize E * a % 500000003 = P at *
  generalize (K + P) % 500000003 = S at *
  have hR := Lib.hid (Row1.start w #[.int .u32 0, .int .u32 0] 33)
  generalize m.length = n at *
  have ha := h.1; have hk1 := hk.1; have hk2 := hk.2
  have ha2 := h.2
  clear hm hmb hgl h hk
  go_enter Tryz.func73, Tryz.ntmps73
  go_wp2_with (first | (go_at_call 107; refine (hN.out _ hR.out).mono ?_; rintro e w' ⟨rfl, g⟩; have hR := Lib.hid (hR.out.step g); clear g) | (go_at_call 106; (first | (with_reducible refine (hK.out _).mono ?_) | (with_reducible refine (hA.out _).mono ?_)); rintro e w' ⟨rfl, g⟩; have hR := Lib.hid (hR.out.step g); clear g) | (go_at_call 108; refine (hC.out _ hR.out).mono ?_; rintro e w' ⟨rfl, g⟩; have hR := Lib.hid (hR.out.step g); clear g) | (go_at_call 109; refine (hT.out _).mono ?_; rintro e w' ⟨rfl, g⟩; have hR := Lib.hid (hR.out.step g); clear g) | (go_at_call 110; refine (hP.out _).mono ?_; rintro e w' ⟨rfl, g⟩; have hR := Lib.hid (hR.out.step g); clear g) | (refine wpList_store_row rfl 33 _ _ rfl w.heap.size #[.int .u32 (E : Int), .int .u32 (S : Int)] rfl rfl 33 _ hR.out.2 sig_info rfl (two_one _ _) ?_; have hR := Lib.hid (hR.out.set #[.int .u32 (E : Int), .int .u32 (S : Int)])))
  try simp only [Exit.inBlock, Exit.then]
  exact bodyPost_ret (results_row_tmp rfl _ _ w.heap.size 33 _ _ _ rfl hR.out.2 Tryz.underlying33 rfl sig_info) rfl ⟨rfl, hR.out.1⟩
end Go.Proofs.YtdlblhoaddfanaaGreatDoor
namespace Go.Proofs.YtdlblhoaddfanaaGreatDoor
open Go.RowKit Go.YtdlblhoaddfanaaGreatDoor
set_option linter.unusedVariables false
/-- The number that S and E give for a public key. -/
def rN (y S E : Nat) : Nat := grp.pw 4 S * grp.pw (grp.pw y E) 500000002 % grp.GP
def rightB (y : Nat) (m : List Int) (S E : Nat) : Bool := decide (E < 500000003) && (decide (S < 500000003) && decide (chalN (rN y S E) y m = E))
theorem dec_eq (a b : Nat) : ((a : Int) == (b : Int)) = decide (a = b) := by
  rw [Bool.eq_iff_iff, beq_iff_eq, decide_eq_true_iff]; omega
theorem dec_eq' (a b : Nat) : decide ((a : Int) = (b : Int)) = decide (a = b) := decide_eq_decide.2 (by omega)
set_option maxHeartbeats 1000000 in
theorem right_any (y : Nat) (hy : grp.inG y = true) (S E : Nat) (hS : S < 4294967296) (hE : E < 4294967296) (mv : Value) (m : List Int) (w : World) (hm : RdB w mv m) (hmb : Bytes m) (hml : m.length ≤ 9991) (hgl : GlobW w) :
    Calls Tryz.prog 88 #[.int .u32 (y : Int), mv, .agg #[.int .u32 (E : Int), .int .u32 (S : Int)]] w fun e w' => e = .returned (.bool (rightB y m S E)) ∧ Below w.heap.size w w' := by
  by_cases h1 : E < 500000003
  · by_cases h2 : S < 500000003
    · have hr : rightB y m S E = decide (chalN (rN y S E) y m = E) := by simp [rightB, h1, h2]
      rw [hr]
      obtain ⟨ma, mc, rfl⟩ := hm.slice
      have hPo := Lib.hid (grp.pow_ok y E hy (by omega))
      have gP := grp.inG_pw y E hy
      have hC := Lib.hid (fun wi (o : Row1 w wi #[.int .u32 (E : Int), .int .u32 (S : Int)] 33) => chal_ok (rN y S E) y (grp.GP_u32 (Nat.mod_lt _ grp.GP_pos)) (grp.inG_u32 hy) _ m wi (hm.mono o.1) hmb hml (hgl.mono o.1))
      unfold rN at hC ⊢
      generalize grp.pw y E = P at *
      have hIn := Lib.hid (grp.inv_ok P gP)
      have gI := grp.inG_pw P 500000002 gP
      generalize grp.pw P 500000002 = I at *
      have hBa := Lib.hid (grp.base_any S (by omega))
      have gB := grp.inG_pw 4 S grp.in4
      generalize grp.pw 4 S = B at *
      have hMu := Lib.hid (grp.mul_ok B I gB gI)
      generalize B * I % grp.GP = R at *
      generalize chalN R y m = C at *
      have hR := Lib.hid (Row1.start w #[.int .u32 (E : Int), .int .u32 (S : Int)] 33)
      have hc0 : ∀ wi, Row1 w wi #[.int .u32 (E : Int), .int .u32 (S : Int)] 33 → wi.cell? ⟨w.heap.size, 0, none⟩ = some (.int .u32 (E : Int)) ∧ wi.cell? ⟨w.heap.size, 1, none⟩ = some (.int .u32 (S : Int)) := fun wi o => ⟨cell_of_row _ _ _ _ _ _ o.2, cell_of_row _ _ _ _ _ _ o.2⟩
      have hc := Lib.hid hc0
      have d1 : ¬ (500000003 : Int) ≤ (E : Int) := by omega
      have d2 : ¬ (500000003 : Int) ≤ (S : Int) := by omega
      generalize m.length = n at *
      clear hm hmb hgl hy gP gI gB hr hc0
      go_enter Tryz.func88, Tryz.ntmps88
      generalize hq : (500000003 : Int) = q at d1 d2 ⊢
      clear hq
      go_wp2_with (first | (go_at_call 122; refine (hPo.out _).mono ?_; rintro e w' ⟨rfl, g⟩; have hR := Lib.hid (hR.out.step g); clear g; obtain ⟨k0, k1⟩ := hc.out _ hR.out) | (go_at_call 123; refine (hIn.out _).mono ?_; rintro e w' ⟨rfl, g⟩; have hR := Lib.hid (hR.out.step g); clear g; obtain ⟨k0, k1⟩ := hc.out _ hR.out) | (go_at_call 106; refine (hBa.out _).mono ?_; rintro e w' ⟨rfl, g⟩; have hR := Lib.hid (hR.out.step g); clear g; obtain ⟨k0, k1⟩ := hc.out _ hR.out) | (go_at_call 124; refine (hMu.out _).mono ?_; rintro e w' ⟨rfl, g⟩; have hR := Lib.hid (hR.out.step g); clear g; obtain ⟨k0, k1⟩ := hc.out _ hR.out) | (go_at_call 108; refine (hC.out _ hR.out).mono ?_; rintro e w' ⟨rfl, g⟩; have hR := Lib.hid (hR.out.step g); clear g; obtain ⟨k0, k1⟩ := hc.out _ hR.out))
      go_ret
      first | exact ⟨ret_bool (dec_eq C E), hR.out.1⟩ | exact ⟨ret_bool (dec_eq' C E), hR.out.1⟩
    · have hr : rightB y m S E = false := by simp [rightB, h2]
      rw [hr]
      obtain ⟨ma, mc, rfl⟩ := hm.slice
      have hR := Lib.hid (Row1.start w #[.int .u32 (E : Int), .int .u32 (S : Int)] 33)
      have d1 : ¬ (500000003 : Int) ≤ (E : Int) := by omega
      have d2 : (500000003 : Int) ≤ (S : Int) := by omega
      clear hm hmb hgl hy hr
      go_enter Tryz.func88, Tryz.ntmps88
      generalize hq : (500000003 : Int) = q at d1 d2 ⊢
      clear hq
      go_wp2
      go_ret
      exact ⟨rfl, hR.out.1⟩
  · have hr : rightB y m S E = false := by simp [rightB, h1]
    rw [hr]
    obtain ⟨ma, mc, rfl⟩ := hm.slice
    have hR := Lib.hid (Row1.start w #[.int .u32 (E : Int), .int .u32 (S : Int)] 33)
    have d1 : (500000003 : Int) ≤ (E : Int) := by omega
    clear hm hmb hgl hy hr
    go_enter Tryz.func88, Tryz.ntmps88
    generalize hq : (500000003 : Int) = q at d1 ⊢
    clear hq
    go_wp2
    go_ret
    exact ⟨rfl, hR.out.1⟩
theorem verify_any (y : Nat) (hy : grp.inG y = true) (S E : Nat) (hS : S < 4294967296) (hE : E < 4294967296) (mv : Value) (m : List Int) (w : World) (hm : RdB w mv m) (hmb : Bytes m) (hml : m.length ≤ 9991) (hgl : GlobW w) :
    Calls Tryz.prog 60 #[.int .u32 (y : Int), mv, .agg #[.int .u32 (E : Int), .int .u32 (S : Int)]] w fun e w' => e = .returned (.int .i64 (if rightB y m S E then 0 else 22)) ∧ Below w.heap.size w w' := by
  have hI0 := grp.is_any y (grp.inG_u32 hy)
  rw [hy] at hI0
  have hI := Lib.hid hI0
  obtain ⟨ma, mc, rfl⟩ := hm.slice
  have hl0 := tooLong_any ma m.length mc
  rw [decide_eq_false (by omega)] at hl0
  have hl := Lib.hid hl0
  have hR := Lib.hid (Row1.start w #[.int .u32 (E : Int), .int .u32 (S : Int)] 33)
  have hV := Lib.hid (fun wi (o : Row1 w wi #[.int .u32 (E : Int), .int .u32 (S : Int)] 33) => right_any y hy S E hS hE _ m wi (hm.mono o.1) hmb hml (hgl.mono o.1))
  generalize rightB y m S E = b at *
  generalize m.length = n at *
  clear hI0 hy hl0 hm hmb hgl hS hE
  cases b
  · go_enter Tryz.func60, Tryz.ntmps60
    go_wp2_with (first | (go_at_call 76; refine (hI.out _).mono ?_; rintro e w' ⟨rfl, g⟩; have hR := Lib.hid (hR.out.step g); clear g) | (go_at_call 87; refine (hl.out _).mono ?_; rintro e w' ⟨rfl, rfl⟩) | (refine wpList_load_row rfl 33 _ rfl w.heap.size rfl 33 _ (0, 0) _ hR.out.2 Tryz.underlying33 rfl sig_info ?_) | (go_at_call 88; refine (hV.out _ hR.out).mono ?_; rintro e w' ⟨rfl, g⟩; have hR := Lib.hid (hR.out.step g); clear g))
    go_ret
    exact ⟨rfl, hR.out.1⟩
  · go_enter Tryz.func60, Tryz.ntmps60
    go_wp2_with (first | (go_at_call 76; refine (hI.out _).mono ?_; rintro e w' ⟨rfl, g⟩; have hR := Lib.hid (hR.out.step g); clear g) | (go_at_call 87; refine (hl.out _).mono ?_; rintro e w' ⟨rfl, rfl⟩) | (refine wpList_load_row rfl 33 _ rfl w.heap.size rfl 33 _ (0, 0) _ hR.out.2 Tryz.underlying33 rfl sig_info ?_) | (go_at_call 88; refine (hV.out _ hR.out).mono ?_; rintro e w' ⟨rfl, g⟩; have hR := Lib.hid (hR.out.step g); clear g))
    go_ret
    exact ⟨rfl, hR.out.1⟩
end Go.Proofs.YtdlblhoaddfanaaGreatDoor
namespace Go.Proofs.YtdlblhoaddfanaaGreatDoor
open Go.RowKit Go.YtdlblhoaddfanaaGreatDoor
set_option linter.unusedVariables false
namespace grp
theorem signed_made (a K E : Nat) : pw 4 ((K + E * a % 500000003) % 500000003) = pw 4 K * pw (pw 4 a) E % GP := by
  have h4 := ((inG_iff 4).1 in4).2.2
  rw [← pw_rem 4 h4, pw_add, ← pw_rem 4 h4 (E * a), Nat.mul_comm E a, pw_mul]
theorem signed_r (a K E : Nat) : pw 4 ((K + E * a % 500000003) % 500000003) * pw (pw (pw 4 a) E) 500000002 % GP = pw 4 K := by
  have hX := inG_pw (pw 4 a) E (inG_pw 4 a in4)
  have hi := inv_mul _ hX
  have hK := pw_lt 4 K
  rw [signed_made]
  generalize pw (pw 4 a) E = X at *
  generalize pw X 500000002 = I at *
  generalize pw 4 K = k at *
  rw [Nat.mod_mul_mod, Nat.mul_assoc, ← Nat.mul_mod_mod, hi, Nat.mul_one, Nat.mod_eq_of_lt hK]
end grp
theorem signed_right (a : Nat) (m : List Int) : rightB (grp.pw 4 a) m (sN a m) (eN a m) = true := by
  have h1 : eN a m < 500000003 := chalN_lt _ _ _
  have h2 : sN a m < 500000003 := Nat.mod_lt _ (by decide)
  have h3 : rN (grp.pw 4 a) (sN a m) (eN a m) = grp.pw 4 (nonceN a m) := grp.signed_r a (nonceN a m) (eN a m)
  simp only [rightB, h1, h2, h3, decide_true, Bool.true_and]
  exact decide_eq_true rfl
def msg : List Int := [109, 101, 115, 115, 97, 103, 101]
theorem pw42 : grp.pw 4 2 = 16 := by rw [grp.pw_eq _ _ (by decide)]; decide +kernel
/-- What a world has: a row at a place. -/
def Has (w : World) (g : Nat) (cs : Array Value) (T : TypeId) : Prop := w.heap[g]? = some (.cells cs T (0, 0))
theorem Has.lt {w : World} {g : Nat} {cs : Array Value} {T : TypeId} (h : Has w g cs T) : g < w.heap.size := (Array.getElem?_eq_some_iff.1 h).1
theorem Has.step {w w' : World} {g : Nat} {cs : Array Value} {T : TypeId} (h : Has w g cs T) (hb : Below w.heap.size w w') : Has w' g cs T := (hb.block _ h.lt).trans h
def Live (w wz : World) (mv : Value) (g : Nat) (cs : Array Value) : Prop := Below w.heap.size w wz ∧ GlobW wz ∧ RdB wz mv msg ∧ Has wz g cs 33
theorem Live.gl {w wz : World} {mv : Value} {g : Nat} {cs : Array Value} (h : Live w wz mv g cs) : GlobW wz := h.2.1
theorem Live.rd {w wz : World} {mv : Value} {g : Nat} {cs : Array Value} (h : Live w wz mv g cs) : RdB wz mv msg := h.2.2.1
theorem Live.step {w wz wy : World} {mv : Value} {g : Nat} {cs : Array Value} (h : Live w wz mv g cs) (hb : Below wz.heap.size wz wy) : Live w wy mv g cs :=
  ⟨h.1.trans (hb.mono h.1.size), h.2.1.mono hb, h.2.2.1.mono hb, h.2.2.2.step hb⟩
theorem in16 : grp.inG 16 = true := by rw [← pw42]; exact grp.inG_pw 4 2 grp.in4
theorem eN_lt (a : Nat) (m : List Int) : eN a m < 500000003 := chalN_lt _ _ _
theorem sN_lt (a : Nat) (m : List Int) : sN a m < 500000003 := Nat.mod_lt _ (by decide)
end Go.Proofs.YtdlblhoaddfanaaGreatDoor

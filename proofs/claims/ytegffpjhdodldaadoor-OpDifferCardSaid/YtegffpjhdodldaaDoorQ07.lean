/- Layer 6: messages: contracts of package op. -/
import Derived.Test.YtegffpjhdodldaaDoorQ04
import Derived.Test.YtegffpjhdodldaaDoorI02
import Derived.Test.YtegffpjhdodldaaDoorV09
namespace Go.Proofs.YtegffpjhdodldaaDoor.wir.val
open Go.RowKit Go.YtegffpjhdodldaaDoor
set_option linter.unusedVariables false
/-- A slice of one's own lies in no block of another type. -/
theorem ownNe {B : Nat} {E T : TypeId} {w : World} {v : Value} {l : List Int} (h : OwnB B E w v l) {g : Nat} {cs : Array Value} {fr : Nat × Nat} (hg : w.heap[g]? = some (.cells cs T fr)) (hT : T ≠ E) : some g ≠ v.ownBlock := by
  rcases h.2 with ⟨rfl, _⟩ | ⟨k, cap, cur, rfl, hb, hk, _⟩
  · intro e; cases e
  · intro e
    simp only [Value.ownBlock, Option.some.injEq] at e
    subst e
    rw [hg] at hk
    injection hk with hk
    injection hk with _ h2 _
    exact hT h2
theorem grownRow {w w' : World} {r : Option Nat} (h : w.grownBy w' r) {g : Nat} {o : Obj} (hg : w.heap[g]? = some o) (hne : some g ≠ r) : w'.heap[g]? = some o :=
  (h.block g (Array.getElem?_eq_some_iff.1 hg).1 hne).trans hg
theorem own_setCell {B : Nat} {E T : TypeId} {w : World} {v : Value} {l : List Int} (h : OwnB B E w v l) {g : Nat} {cs : Array Value} (hg : w.heap[g]? = some (.cells cs T (0, 0))) (hT : T ≠ E) (i : Nat) (x : Value) : OwnB B E (w.setCell ⟨g, i, none⟩ x) v l := by
  have hne := ownNe h hg hT
  rw [setCell_eq hg]
  refine ⟨h.1, ?_⟩
  rcases h.2 with hn | ⟨k, cap, cur, rfl, hb, hk, rest⟩
  · exact .inl hn
  · refine .inr ⟨k, cap, cur, rfl, hb, (setRow_other w g k _ ?_).trans hk, rest⟩
    intro e
    exact hne (by rw [← e]; rfl)
set_option maxRecDepth 100000 in
/-- The closure that puts a part behind what is there. -/
theorem putM_any (B g : Nat) (sv : Value) (l : List Int) (rv : Value) (r : List Int) (e : Int) (w : World) (ho : OwnB B 5 w sv l) (hg : w.heap[g]? = some (.cells #[sv] 40 (0, 0))) (hr : RdB w rv r) (hlen : l.length + r.length ≤ 1000000) (hB : B ≤ g) :
    Calls Tryd.prog 50 #[rv, .int .i64 e, .pointer (some ⟨g, 0, none⟩)] w fun x w' => IsRet x ∧ ∃ sv', w'.heap[g]? = some (.cells #[sv'] 40 (0, 0)) ∧ OwnB B 5 w' sv' (l ++ r) ∧ Below B w w' := by
  have c1 : w.cell? ⟨g, 0, none⟩ = some sv := by rw [cell_of_row _ _ _ _ _ _ hg]; rfl
  have hgs := (Array.getElem?_eq_some_iff.1 hg).1
  have ho' := Lib.hid ho; have hg' := Lib.hid hg; have hr' := Lib.hid hr
  have hBs : B ≤ w.heap.size := by omega
  clear ho hg hr
  go_enter Tryd.func50, Tryd.ntmps50
  go_wp2_with (refine appendB rfl _ _ 40 rfl B 5 Tryd.underlying40 (by kernel_rfl) _ rfl l ho'.out _ rfl r hr'.out (by omega) hBs ?_)
  intro v' w1 h1 h2
  obtain ⟨pa, pc, rfl⟩ := h1.rd.slice
  have hg1 := grownRow h2 hg'.out (ownNe ho'.out hg'.out (by decide))
  have k1 : w1.cell? ⟨g, 0, none⟩ = some sv := by rw [cell_of_row _ _ _ _ _ _ hg1]; rfl
  have k2 : w1.frozen? ⟨g, 0, none⟩ = false := frozen_of_row _ _ 0 _ _ hg1
  have hb1 := Lib.hid (ho'.out.below h2 hBs)
  have ho1 := Lib.hid h1; have hg1' := Lib.hid hg1
  clear h1 h2 hg1
  generalize (l ++ r).length = N at *
  refine Stop.go ?_
  go_wp2
  go_end0
  exact ⟨⟨_, rfl⟩, _, setCell_row hg1'.out 0 _, own_setCell ho1.out hg1'.out (by decide) 0 _, hb1.out.setCell hB _⟩
theorem encB_short {v : Va} (fv : v.fit) (hv : v.ok = true) : (encB v.k v.n v.b v.s).length ≤ 100 := by
  have hk := valid_kind hv
  unfold encB
  split
  · have := numL_le (foldN v.n) (fold_lt v.n fv.n)
    simp only [List.length_cons, numB_length]; omega
  · split
    · simp only [List.length_cons, be_length]; omega
    · have h3 : v.k = 3 := by omega
      have hs : v.s.size ≤ 30 := valid_text (n := v.n) (b := v.b) (by rw [← h3]; exact hv)
      have := numL_le v.s.size (by omega)
      simp only [List.length_cons, textB_length, sI_length]; omega
theorem rd_one' (w : World) (x : Int) : RdB (w.alloc (.cells #[.int .u8 x] 5)) (.slice (some ⟨w.heap.size, 0, none⟩) 1 1) [x] := rdB_row (cs := [x]) (heap_alloc_new w _) 1 rfl (by decide)
/-- The bytes of a message. -/
def msgB (o : Od) : List Int := (((((([111] ++ numB o.au) ++ (numB o.n ++ o.F)) ++ numB o.st) ++ [o.k]) ++ (if o.k = 1 then [] else textB (sI o.key))) ++ (if o.k = 4 then encB o.v.k o.v.n o.v.b o.v.s else []))
theorem cellsP {w : World} {g : Nat} {o : Od} {pv : Value} (h : w.heap[g]? = some (.cells (o.c pv) 32 (0, 0))) :
    w.cell? ⟨g, 0, none⟩ = some (.int .u32 (o.au : Int)) ∧ w.cell? ⟨g, 1, none⟩ = some pv ∧ w.cell? ⟨g, 2, none⟩ = some (.int .u64 (o.st : Int)) ∧ w.cell? ⟨g, 3, none⟩ = some (.int .u8 o.k) ∧ w.cell? ⟨g, 4, none⟩ = some (.string o.key) ∧ w.rangeAt g 5 o.v.l := by
  refine ⟨cell_of_row _ _ _ _ _ _ h, cell_of_row _ _ _ _ _ _ h, cell_of_row _ _ _ _ _ _ h, cell_of_row _ _ _ _ _ _ h, cell_of_row _ _ _ _ _ _ h, ?_⟩
  intro j x hx
  have hj : j < 4 := (List.getElem?_eq_some_iff.1 hx).1
  rw [← hx]
  unfold World.cell?
  rw [show (⟨g, 5 + j, none⟩ : Addr).block = g from rfl, h]
  match j, hj with
  | 0, _ => rfl
  | 1, _ => rfl
  | 2, _ => rfl
  | 3, _ => rfl
theorem act_kinds {k : Int} {s : ByteArray} {v : Va} (h : actB k s v = true) : (k = 1) ∨ ((k = 2 ∨ k = 3) ∧ s.size ≤ 20) ∨ (k = 4 ∧ s.size ≤ 20 ∧ v.ok = true) := by
  have hk : keyB s = true → s.size ≤ 20 := fun h => by
    unfold keyB at h
    simp only [Bool.and_eq_true, decide_eq_true_eq] at h
    exact h.2.1
  unfold actB at h
  by_cases h1 : k = 1
  · exact .inl h1
  · rw [if_neg h1] at h
    by_cases h2 : k = 2 ∨ k = 3
    · rw [if_pos h2, Bool.and_eq_true] at h
      exact .inr (.inl ⟨h2, hk h.1⟩)
    · rw [if_neg h2] at h
      by_cases h4 : k = 4
      · rw [if_pos h4, Bool.and_eq_true] at h
        exact .inr (.inr ⟨h4, hk h.1, h.2⟩)
      · rw [if_neg h4] at h
        cases h
theorem u64_nat (n : Nat) (h : n < 18446744073709551616) : IntKind.u64.wrap (n : Int) = (n : Int) := by
  exact IntWalk.u64_in _ (by omega)
set_option maxHeartbeats 4000000 in
set_option maxRecDepth 100000 in
theorem message_any (o : Od) (fo : o.Fit) (hn : o.n ≤ 4) (hR : riseF o.F o.n = true) (hA : actB o.k o.key o.v = true) (pv : Value) (w : World) (hp : RdI w pv o.n o.F) :
    Calls Tryd.prog 27 #[.agg (o.c pv)] w fun e w' => ∃ sv, e = .returned sv ∧ OwnB w.heap.size 5 w' sv (msgB o) ∧ Below w.heap.size w w' := by
  obtain ⟨W, hW⟩ : ∃ W, W = w.alloc (.cells (o.c pv) 32) := ⟨_, rfl⟩
  have hr0 := heap_alloc_new w (.cells (o.c pv) 32)
  have hb0 := (Below.refl w.heap.size w).alloc (Nat.le_refl _) (.cells (o.c pv) 32)
  rw [← hW] at hr0 hb0
  have hlF := Lib.hid hp.len
  obtain ⟨pa, pc, rfl⟩ := hp.slice
  have hb1 := Lib.hid hb0
  have hlt := Lib.hid hb0.size
  have hrow := Lib.hid hr0
  have hmids := Lib.hid (fun (wz : World) (h : Below W.heap.size W wz) => (cellsP (rowB hrow.out h (Array.getElem?_eq_some_iff.1 hr0).1)))
  have hmf : ∀ (fn : Fn) (first cap : Array Value) (w : World), (Instr.makeFunc fn first cap).run Tryd.prog w = .ok (.func fn first cap) w := fun _ _ _ _ => rfl
  have kc := fun (w : World) => run_bytes_of_string (P := Tryd.prog) w 9 40 5 o.key Tryd.underlying9 Tryd.underlying40 Tryd.underlying5
  have hau := u64_nat o.au (by have := fo.au; omega)
  have hid := Lib.hid (fun (wz : World) (h : Below W.heap.size W wz) => ids_ok o.F o.n (.slice pa o.n pc) wz ((hp.mono hb0).mono h) fo.F (by omega) hR)
  have hnu := Lib.hid (fun (wz : World) => number_any o.au (by have := fo.au; omega) wz)
  have hns := Lib.hid (fun (wz : World) => number_any o.st fo.st wz)
  have la := Lib.hid (numL_le o.au (by have := fo.au; omega))
  have ls := Lib.hid (numL_le o.st fo.st)
  have ln := Lib.hid (numL_le o.n (by omega))
  have hkinds := Lib.hid (act_kinds hA)
  have hT := Lib.hid (fun (hs : o.key.size ≤ 20) (W : World) (m : Nat × Nat) => bytes_any _ (sI o.key) _ (rd_strI W o.key (by omega) m) (by rw [sI_length]; omega))
  have hE := Lib.hid (fun (hv : o.v.ok = true) (wz : World) => enc_ok o.v.k o.v.n o.v.b o.v.s fo.v hv wz)
  have hEl := Lib.hid (fun (hv : o.v.ok = true) => encB_short fo.v hv)
  have hnn := Lib.hid hn
  clear hr0 hb0 hp hrow fo hR hA hn
  go_enter Tryd.func27, Tryd.ntmps27
  go_upto_region 1 with fail
  rw [← hW]
  clear hW
  go_upto_region 3 with fail
  have hO := Lib.hid ((ownB_row (cs := [111]) (heap_alloc_new W (.cells #[.int .u8 111] 5)) 1 rfl (by decide) (Nat.le_refl W.heap.size)).kept (below_a (W.alloc (.cells #[.int .u8 111] 5)) (.cells #[.slice (some ⟨W.heap.size, 0, none⟩) 1 1] 40)))
  have hC := Lib.hid (hn2 W (.cells #[.int .u8 111] 5) (.cells #[.slice (some ⟨W.heap.size, 0, none⟩) 1 1] 40))
  have hB := Lib.hid ((below_a W (.cells #[.int .u8 111] 5)).alloc (by simp) (.cells #[.slice (some ⟨W.heap.size, 0, none⟩) 1 1] 40))
  have hN := Lib.hid (show ([111] : List Int).length ≤ 1 from Nat.le_refl _)
  generalize (W.alloc (.cells #[.int .u8 111] 5)).alloc (.cells #[.slice (some ⟨W.heap.size, 0, none⟩) 1 1] 40) = wx at *
  generalize Value.slice (some ⟨W.heap.size, 0, none⟩) 1 1 = sv at *
  obtain ⟨g, hg⟩ : ∃ g, g = W.heap.size + 1 := ⟨_, rfl⟩
  rw [← hg] at hC ⊢
  have hBg := Lib.hid (show W.heap.size ≤ g by omega)
  clear hg
  obtain ⟨c0, c1, c2, c3, c4, c5⟩ := hmids.out _ hB.out
  go_upto_region 4 with (first | (go_at_call 32; (with_reducible refine (hnu.out _).mono ?_); rintro e w4 ⟨rfl, q1, q2⟩; replace hO := Lib.hid (hO.out.kept (q2)); replace hC := Lib.hid (rowB hC.out (q2) (Array.getElem?_eq_some_iff.1 hC.out).1); replace hB := Lib.hid (hB.out.trans (Below.mono (q2) hB.out.size)); have hr := Lib.hid (rdB_row q1 _ (numB_length _) (Nat.le_trans la.out (by decide))); have hrl := Lib.hid (show (numB o.au).length ≤ 9 by rw [numB_length]; exact la.out); clear q1 q2) | (go_at_call 50; (with_reducible refine (putM_any W.heap.size g _ [111] _ (numB o.au) _ _ (hO.out) (hC.out) (hr.out) (by have h1 := hN.out; have h2 := hrl.out; omega) hBg.out).mono ?_); rintro e w5 ⟨⟨z5, rfl⟩, sv5, q1, q2, q3⟩; replace hO := Lib.hid q2; replace hC := Lib.hid q1; replace hB := Lib.hid ((hB.out).trans q3); replace hN := Lib.hid (show ([111] ++ (numB o.au)).length ≤ 20 by have h1 := hN.out; have h2 := hrl.out; rw [List.length_append]; omega); clear c0 c1 c2 c3 c4 c5; obtain ⟨c0, c1, c2, c3, c4, c5⟩ := hmids.out _ hB.out; clear q1 q2 q3 hrl))
  clear hr
  go_upto_region 5 with (first | (go_at_call 51; (with_reducible refine (hid.out _ hB.out).mono ?_); rintro e w4 ⟨g4, rfl, q0, q1, q2⟩; replace hO := Lib.hid (hO.out.kept (q2)); replace hC := Lib.hid (rowB hC.out (q2) (Array.getElem?_eq_some_iff.1 hC.out).1); replace hB := Lib.hid (hB.out.trans (Below.mono (q2) hB.out.size)); have hr := Lib.hid (rdB_row q1 _ (by rw [List.length_append, numB_length, hlF.out]) (by have h1 := ln.out; have h2 := hnn.out; unfold maxLen; omega)); have hrl := Lib.hid (show (numB o.n ++ o.F).length ≤ 140 by rw [List.length_append, numB_length, hlF.out]; have h1 := ln.out; have h2 := hnn.out; omega); clear q0 q1 q2) | (go_at_call 50; (with_reducible refine (putM_any W.heap.size g _ ([111] ++ numB o.au) _ (numB o.n ++ o.F) _ _ (hO.out) (hC.out) (hr.out) (by have h1 := hN.out; have h2 := hrl.out; omega) hBg.out).mono ?_); rintro e w5 ⟨⟨z5, rfl⟩, sv5, q1, q2, q3⟩; replace hO := Lib.hid q2; replace hC := Lib.hid q1; replace hB := Lib.hid ((hB.out).trans q3); replace hN := Lib.hid (show (([111] ++ numB o.au) ++ (numB o.n ++ o.F)).length ≤ 200 by have h1 := hN.out; have h2 := hrl.out; rw [List.length_append]; omega); clear c0 c1 c2 c3 c4 c5; obtain ⟨c0, c1, c2, c3, c4, c5⟩ := hmids.out _ hB.out; clear q1 q2 q3 hrl))
  clear hr
  go_upto_region 6 with (first | (go_at_call 32; (with_reducible refine (hns.out _).mono ?_); rintro e w4 ⟨rfl, q1, q2⟩; replace hO := Lib.hid (hO.out.kept (q2)); replace hC := Lib.hid (rowB hC.out (q2) (Array.getElem?_eq_some_iff.1 hC.out).1); replace hB := Lib.hid (hB.out.trans (Below.mono (q2) hB.out.size)); have hr := Lib.hid (rdB_row q1 _ (numB_length _) (Nat.le_trans ls.out (by decide))); have hrl := Lib.hid (show (numB o.st).length ≤ 9 by rw [numB_length]; exact ls.out); clear q1 q2) | (go_at_call 50; (with_reducible refine (putM_any W.heap.size g _ (([111] ++ numB o.au) ++ (numB o.n ++ o.F)) _ (numB o.st) _ _ (hO.out) (hC.out) (hr.out) (by have h1 := hN.out; have h2 := hrl.out; omega) hBg.out).mono ?_); rintro e w5 ⟨⟨z5, rfl⟩, sv5, q1, q2, q3⟩; replace hO := Lib.hid q2; replace hC := Lib.hid q1; replace hB := Lib.hid ((hB.out).trans q3); replace hN := Lib.hid (show ((([111] ++ numB o.au) ++ (numB o.n ++ o.F)) ++ (numB o.st)).length ≤ 220 by have h1 := hN.out; have h2 := hrl.out; rw [List.length_append]; omega); clear c0 c1 c2 c3 c4 c5; obtain ⟨c0, c1, c2, c3, c4, c5⟩ := hmids.out _ hB.out; clear q1 q2 q3 hrl))
  clear hr
  have hrl := Lib.hid (show ([o.k] : List Int).length ≤ 1 from Nat.le_refl _)
  go_upto_region 7 with (go_at_call 50; (with_reducible refine (putM_any W.heap.size g _ ((([111] ++ numB o.au) ++ (numB o.n ++ o.F)) ++ numB o.st) _ [o.k] _ _ (hO.out.kept (below_a _ (.cells #[.int .u8 o.k] 5))) (rowB hC.out (below_a _ (.cells #[.int .u8 o.k] 5)) (Array.getElem?_eq_some_iff.1 hC.out).1) (rd_one' _ _) (by have h1 := hN.out; have h2 := hrl.out; omega) hBg.out).mono ?_); rintro e w5 ⟨⟨z5, rfl⟩, sv5, q1, q2, q3⟩; replace hO := Lib.hid q2; replace hC := Lib.hid q1; replace hB := Lib.hid ((hB.out.alloc hB.out.size (.cells #[.int .u8 o.k] 5)).trans q3); replace hN := Lib.hid (show (((([111] ++ numB o.au) ++ (numB o.n ++ o.F)) ++ numB o.st) ++ [o.k]).length ≤ 230 by have h1 := hN.out; have h2 := hrl.out; rw [List.length_append]; omega); clear c0 c1 c2 c3 c4 c5; obtain ⟨c0, c1, c2, c3, c4, c5⟩ := hmids.out _ hB.out; clear q1 q2 q3 hrl)
  have cg : ∀ {wz : World} {sz : Value}, wz.heap[g]? = some (.cells #[sz] 40 (0, 0)) → wz.cell? ⟨g, 0, none⟩ = some sz := fun h => by rw [cell_of_row _ _ _ _ _ _ h]; rfl
  rcases hkinds.out with hk | ⟨hk, hks⟩ | ⟨hk, hks, hv⟩
  · have k1 : (o.k != 1) = false := by rw [hk]; rfl
    have k4 : (o.k == 4) = false := by rw [hk]; rfl
    have cz := cg hC.out
    clear cg
    go_wp2
    go_ret
    have he : msgB o = (((([111] ++ numB o.au) ++ (numB o.n ++ o.F)) ++ numB o.st) ++ [o.k]) := by unfold msgB; rw [if_pos hk, if_neg (by rw [hk]; decide), List.append_nil, List.append_nil]
    exact ⟨_, rfl, by rw [he]; exact hO.out.mono hlt.out, hb1.out.trans (hB.out.mono hb1.out.size)⟩
  · have k1 : (o.k != 1) = true := by rcases hk with hk | hk <;> (rw [hk]; rfl)
    have k4 : (o.k == 4) = false := by rcases hk with hk | hk <;> (rw [hk]; rfl)
    go_upto_region 9 with (first | (go_at_call 52; (refine (hT.out hks w5 _).mono ?_); rintro e w4 ⟨g4, rfl, q0, q1, q2⟩; replace hO := Lib.hid (hO.out.kept ((show Below w5.heap.size w5 (w5.drew.alloc _) from (Below.refl _ _).drew.alloc (Nat.le_refl _) _).trans (q2.mono (by simp)))); replace hC := Lib.hid (rowB hC.out ((show Below w5.heap.size w5 (w5.drew.alloc _) from (Below.refl _ _).drew.alloc (Nat.le_refl _) _).trans (q2.mono (by simp))) (Array.getElem?_eq_some_iff.1 hC.out).1); replace hB := Lib.hid (hB.out.trans (Below.mono ((show Below w5.heap.size w5 (w5.drew.alloc _) from (Below.refl _ _).drew.alloc (Nat.le_refl _) _).trans (q2.mono (by simp))) hB.out.size)); have hr := Lib.hid (rdB_row q1 _ rfl (by rw [textB_length, sI_length]; have := numL_le o.key.size (by omega); unfold maxLen; omega)); have hrl := Lib.hid (show (textB (sI o.key)).length ≤ 30 by rw [textB_length, sI_length]; have := numL_le o.key.size (by omega); omega); clear q0 q1 q2) | (go_at_call 50; (with_reducible refine (putM_any W.heap.size g _ (((([111] ++ numB o.au) ++ (numB o.n ++ o.F)) ++ numB o.st) ++ [o.k]) _ (textB (sI o.key)) _ _ (hO.out) (hC.out) (hr.out) (by have h1 := hN.out; have h2 := hrl.out; omega) hBg.out).mono ?_); rintro e w5 ⟨⟨z5, rfl⟩, sv5, q1, q2, q3⟩; replace hO := Lib.hid q2; replace hC := Lib.hid q1; replace hB := Lib.hid ((hB.out).trans q3); replace hN := Lib.hid (show ((((([111] ++ numB o.au) ++ (numB o.n ++ o.F)) ++ numB o.st) ++ [o.k]) ++ (textB (sI o.key))).length ≤ 260 by have h1 := hN.out; have h2 := hrl.out; rw [List.length_append]; omega); clear c0 c1 c2 c3 c4 c5; obtain ⟨c0, c1, c2, c3, c4, c5⟩ := hmids.out _ hB.out; clear q1 q2 q3 hrl))
    have cz := cg hC.out
    clear cg
    go_wp2
    go_ret
    have he : msgB o = ((((([111] ++ numB o.au) ++ (numB o.n ++ o.F)) ++ numB o.st) ++ [o.k]) ++ textB (sI o.key)) := by unfold msgB; rw [if_neg (by rcases hk with hk | hk <;> (rw [hk]; decide)), if_neg (by rcases hk with hk | hk <;> (rw [hk]; decide)), List.append_nil]
    exact ⟨_, rfl, by rw [he]; exact hO.out.mono hlt.out, hb1.out.trans (hB.out.mono hb1.out.size)⟩
  · have k1 : (o.k != 1) = true := by rw [hk]; rfl
    have k4 : (o.k == 4) = true := by rw [hk]; rfl
    go_upto_region 9 with (first | (go_at_call 52; (refine (hT.out hks w5 _).mono ?_); rintro e w4 ⟨g4, rfl, q0, q1, q2⟩; replace hO := Lib.hid (hO.out.kept ((show Below w5.heap.size w5 (w5.drew.alloc _) from (Below.refl _ _).drew.alloc (Nat.le_refl _) _).trans (q2.mono (by simp)))); replace hC := Lib.hid (rowB hC.out ((show Below w5.heap.size w5 (w5.drew.alloc _) from (Below.refl _ _).drew.alloc (Nat.le_refl _) _).trans (q2.mono (by simp))) (Array.getElem?_eq_some_iff.1 hC.out).1); replace hB := Lib.hid (hB.out.trans (Below.mono ((show Below w5.heap.size w5 (w5.drew.alloc _) from (Below.refl _ _).drew.alloc (Nat.le_refl _) _).trans (q2.mono (by simp))) hB.out.size)); have hr := Lib.hid (rdB_row q1 _ rfl (by rw [textB_length, sI_length]; have := numL_le o.key.size (by omega); unfold maxLen; omega)); have hrl := Lib.hid (show (textB (sI o.key)).length ≤ 30 by rw [textB_length, sI_length]; have := numL_le o.key.size (by omega); omega); clear q0 q1 q2) | (go_at_call 50; (with_reducible refine (putM_any W.heap.size g _ (((([111] ++ numB o.au) ++ (numB o.n ++ o.F)) ++ numB o.st) ++ [o.k]) _ (textB (sI o.key)) _ _ (hO.out) (hC.out) (hr.out) (by have h1 := hN.out; have h2 := hrl.out; omega) hBg.out).mono ?_); rintro e w5 ⟨⟨z5, rfl⟩, sv5, q1, q2, q3⟩; replace hO := Lib.hid q2; replace hC := Lib.hid q1; replace hB := Lib.hid ((hB.out).trans q3); replace hN := Lib.hid (show ((((([111] ++ numB o.au) ++ (numB o.n ++ o.F)) ++ numB o.st) ++ [o.k]) ++ (textB (sI o.key))).length ≤ 260 by have h1 := hN.out; have h2 := hrl.out; rw [List.length_append]; omega); clear c0 c1 c2 c3 c4 c5; obtain ⟨c0, c1, c2, c3, c4, c5⟩ := hmids.out _ hB.out; clear q1 q2 q3 hrl))
    clear hr
    go_upto_region 11 with (first | (go_at_call 53; (with_reducible refine (hE.out hv _).mono ?_); rintro e w4 ⟨sx, rfl, q1, q2⟩; replace hO := Lib.hid (hO.out.kept (q2)); replace hC := Lib.hid (rowB hC.out (q2) (Array.getElem?_eq_some_iff.1 hC.out).1); replace hB := Lib.hid (hB.out.trans (Below.mono (q2) hB.out.size)); have hr := Lib.hid (q1.rd); have hrl := Lib.hid (hEl.out hv); clear q1 q2) | (refine wpList_midV rfl 26 _ rfl w.heap.size 5 rfl o.v.l _ c5 Tryd.underlying26 rfl info_val ?_) | (go_at_call 50; (with_reducible refine (putM_any W.heap.size g _ ((((([111] ++ numB o.au) ++ (numB o.n ++ o.F)) ++ numB o.st) ++ [o.k]) ++ textB (sI o.key)) _ (encB o.v.k o.v.n o.v.b o.v.s) _ _ (hO.out) (hC.out) (hr.out) (by have h1 := hN.out; have h2 := hrl.out; omega) hBg.out).mono ?_); rintro e w5 ⟨⟨z5, rfl⟩, sv5, q1, q2, q3⟩; replace hO := Lib.hid q2; replace hC := Lib.hid q1; replace hB := Lib.hid ((hB.out).trans q3); replace hN := Lib.hid (show (((((([111] ++ numB o.au) ++ (numB o.n ++ o.F)) ++ numB o.st) ++ [o.k]) ++ textB (sI o.key)) ++ (encB o.v.k o.v.n o.v.b o.v.s)).length ≤ 400 by have h1 := hN.out; have h2 := hrl.out; rw [List.length_append]; omega); clear c0 c1 c2 c3 c4 c5; obtain ⟨c0, c1, c2, c3, c4, c5⟩ := hmids.out _ hB.out; clear q1 q2 q3 hrl))
    have cz := cg hC.out
    clear cg
    go_wp2
    go_ret
    have he : msgB o = (((((([111] ++ numB o.au) ++ (numB o.n ++ o.F)) ++ numB o.st) ++ [o.k]) ++ textB (sI o.key)) ++ encB o.v.k o.v.n o.v.b o.v.s) := by unfold msgB; rw [if_neg (by rw [hk]; decide), if_pos hk]
    exact ⟨_, rfl, by rw [he]; exact hO.out.mono hlt.out, hb1.out.trans (hB.out.mono hb1.out.size)⟩
end Go.Proofs.YtegffpjhdodldaaDoor.wir.val

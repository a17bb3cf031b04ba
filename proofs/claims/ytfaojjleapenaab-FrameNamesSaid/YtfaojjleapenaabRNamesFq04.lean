/- Texts that the row stands on, part 4. -/
import Derived.Test.YtfaojjleapenaabRNamesFq03
namespace Go.Proofs.Ytfaojjleapenaab
open Go.RowKit Go.Ytfaojjleapenaab
set_option linter.unusedVariables false
/-- What the operations of the drawn region leave. -/
inductive FnK
  | fr (f : Fr)
  | ids (n : Nat) (F : List Int)
  | txt (L : List (List Int))
  | idv (x : Int)
  | byt (l : List Int)
def FnK.P : FnK → Value → World → Prop
  | .fr f, v, w => ∃ ia ic oa oc, v = .agg (f.c (.slice ia f.n ic) (.slice oa f.L.length oc)) ∧ RdI w (.slice ia f.n ic) f.n f.F ∧ RdS w (.slice oa f.L.length oc) f.L
  | .ids n F, v, w => ∃ a c, v = .slice a n c ∧ RdI w (.slice a n c) n F
  | .txt L, v, w => ∃ a c, v = .slice a L.length c ∧ RdS w (.slice a L.length c) L
  | .idv x, v, _ => v = .agg (u8s (idOf x))
  | .byt l, v, w => ∃ a c, v = .slice a l.length c ∧ RdB w (.slice a l.length c) l
theorem FnK.keep (k : FnK) (v : Value) (w w' : World) (h : k.P v w) (hb : Below w.heap.size w w') : k.P v w' := by
  cases k with
  | fr f => obtain ⟨ia, ic, oa, oc, e, h1, h2⟩ := h; exact ⟨ia, ic, oa, oc, e, h1.mono hb, h2.mono hb⟩
  | ids n F => obtain ⟨a, c, e, h1⟩ := h; exact ⟨a, c, e, h1.mono hb⟩
  | txt L => obtain ⟨a, c, e, h1⟩ := h; exact ⟨a, c, e, h1.mono hb⟩
  | idv x => exact h
  | byt l => obtain ⟨a, c, e, h1⟩ := h; exact ⟨a, c, e, h1.mono hb⟩
def fnA : List (List Nat) := [[], [], [], [2], [], [4], [], [], [7], [2], [2, 9], [], [11], [], [], [13, 14], [13, 14, 15], [], [2, 9], [2, 9, 18], [], [20], [], [22], [22, 23], [], [25], [0, 1, 2, 3, 4, 5, 6, 7, 8, 9, 10, 11, 12, 13, 14, 15, 16, 17, 18, 19, 20, 21, 22, 23, 24, 25, 26], [0, 1, 2, 3, 4, 5, 6, 7, 8, 9, 10, 11, 12, 13, 14, 15, 16, 17, 18, 19, 20, 21, 22, 23, 24, 25, 26, 27]]
def fnK : Nat → FnK
  | 0 => .fr ⟨0, 0, 0, [], []⟩
  | 1 => .fr ⟨7, 0, 0, [], []⟩
  | 2 => .ids 1 (risF 1)
  | 3 => .fr ⟨1, 0, 1, risF 1, []⟩
  | 4 => .txt [[]]
  | 5 => .fr ⟨6, 0, 0, [], [[]]⟩
  | 6 => .fr ⟨2, 1, 0, [], []⟩
  | 7 => .txt [[]]
  | 8 => .fr ⟨3, 0, 0, [], [[]]⟩
  | 9 => .ids 41 (risF 41)
  | 10 => .fr ⟨4, 0, 41, risF 41, []⟩
  | 11 => .ids 2 (zerosB 64)
  | 12 => .fr ⟨2, 0, 2, zerosB 64, []⟩
  | 13 => .idv 2
  | 14 => .idv 1
  | 15 => .ids 2 (idOf 2 ++ idOf 1)
  | 16 => .fr ⟨2, 0, 2, idOf 2 ++ idOf 1, []⟩
  | 17 => .fr ⟨5, 1, 0, [], []⟩
  | 18 => .ids 1 (risF 1)
  | 19 => .fr ⟨5, 0, 1, risF 1, []⟩
  | 20 => .txt (List.replicate 9 [])
  | 21 => .fr ⟨5, 0, 0, [], List.replicate 9 []⟩
  | 22 => .byt (zerosB 401)
  | 23 => .txt [zerosB 401]
  | 24 => .fr ⟨5, 0, 0, [], [zerosB 401]⟩
  | 25 => .txt six
  | 26 => .fr ⟨5, 0, 0, [], six⟩
  | _ => .idv 0
theorem wpList_load_midN {P : Program} {ops : Array Oper} {rest : List Oper} {o : Oper} {a : Act} {w : World} {Q : Exit → Act → World → Prop} (hw : Region.wanted o (yielded ops a.tmps) = true) (ty : TypeId) (x : Operand) (ho : o.op = .load ty x)
    (b k : Nat) (hx : a.eval x = .pointer (some ⟨b, k, none⟩)) (cs : Array Value) (d : TypeDesc) (hc : w.rangeAt b k cs.toList)
    (hu : P.underlying ty = some d) (hd : d.isRow = true) (hi : (P.info? ty).map (·.size) = some cs.toList.length)
    (h : wpList P ops Q rest (a.put o.dst (.agg cs)) w) : wpList P ops Q (o :: rest) a w :=
  wpList_step fun K hK => by rw [if_pos hw]; exact wp_load_mid ty x ho b k hx cs.toList d hc hu hd hi (hK _ _ (by simpa using h))
theorem range_of_row {w : World} {g : Nat} {cs : Array Value} {T : TypeId} {r : Nat × Nat} (hg : w.heap[g]? = some (.cells cs T r)) (o : Nat) (xs : List Value) (hx : (cs.toList.drop o).take xs.length = xs) : w.rangeAt g o xs := fun j v hv => by
  have hj : j < xs.length := (List.getElem?_eq_some_iff.1 hv).1
  rw [← hx, List.getElem?_take, if_pos (by simpa [hx] using hj), List.getElem?_drop] at hv
  show w.cell? ⟨g, o + j, none⟩ = some v
  rw [cell_of_row _ _ _ _ _ _ hg]
  simpa using hv
theorem below_aa (w : World) (a b : Obj) : Below w.heap.size w ((w.alloc a).alloc b) := ((Below.refl w.heap.size w).alloc (Nat.le_refl _) a).alloc (by simp) b
theorem rd_oneF (w : World) (a : Value) (l : List Int) (ha : RdB w a l) : RdS (w.alloc (.cells #[a] 29)) (.slice (some ⟨w.heap.size, 0, none⟩) 1 1) [l] := by
  refine .inr ⟨w.heap.size, 0, 1, rfl, Nat.le_refl _, by decide, by simp, fun i hi => ?_⟩
  match i, hi with
  | 0, _ => exact ⟨_, cell_of_row _ _ _ _ _ _ (heap_alloc_new w _), ha.mono (below_a w _)⟩
set_option maxHeartbeats 16000000 in
set_option maxRecDepth 100000 in
theorem fnames_law (w : World) : Calls Try.prog 4 #[] w fun e w' => e = .returned (.bool true) ∧ Below w.heap.size w w' := by
  have hmk : ∀ (n : Nat) (hn : n ≤ 1000) (wz : World), (Instr.makeSlice 29 (.int .i64 (n : Int)) (.int .i64 (n : Int))).run Try.prog wz = .ok (.slice (some ⟨wz.heap.size, 0, none⟩) n n) (wz.alloc (.cells (u8s (zerosB n)) 5)) := fun n hn wz => run_makeB (P := Try.prog) wz 29 5 Try.underlying29 (by kernel_rfl) n n (Nat.le_refl _) (by omega)
  have m400 : ∀ wz : World, (Instr.makeSlice 29 (.int .i64 400) (.int .i64 400)).run Try.prog wz = .ok (.slice (some ⟨wz.heap.size, 0, none⟩) 400 400) (wz.alloc (.cells (u8s (zerosB 400)) 5)) := hmk 400 (by decide)
  have m383 : ∀ wz : World, (Instr.makeSlice 29 (.int .i64 383) (.int .i64 383)).run Try.prog wz = .ok (.slice (some ⟨wz.heap.size, 0, none⟩) 383 383) (wz.alloc (.cells (u8s (zerosB 383)) 5)) := hmk 383 (by decide)
  have m384 : ∀ wz : World, (Instr.makeSlice 29 (.int .i64 384) (.int .i64 384)).run Try.prog wz = .ok (.slice (some ⟨wz.heap.size, 0, none⟩) 384 384) (wz.alloc (.cells (u8s (zerosB 384)) 5)) := hmk 384 (by decide)
  have mk401 := Lib.hid (show ∀ wz : World, (Instr.makeSlice 29 (.int .i64 401) (.int .i64 401)).run Try.prog wz = .ok (.slice (some ⟨wz.heap.size, 0, none⟩) 401 401) (wz.alloc (.cells (u8s (zerosB 401)) 5)) from hmk 401 (by decide))
  have mk1 := Lib.hid (show ∀ wz : World, (Instr.makeSlice 24 (.int .i64 1) (.int .i64 1)).run Try.prog wz = .ok (.slice (some ⟨wz.heap.size, 0, none⟩) 1 1) (wz.alloc (.cells (madeCells #[.slice none 0 0] 1) 29)) from fun wz => run_makeLs wz .i64 1 (by decide))
  have mk9 := Lib.hid (show ∀ wz : World, (Instr.makeSlice 24 (.int .i64 9) (.int .i64 9)).run Try.prog wz = .ok (.slice (some ⟨wz.heap.size, 0, none⟩) 9 9) (wz.alloc (.cells (madeCells #[.slice none 0 0] 9) 29)) from fun wz => run_makeLs wz .i64 9 (by decide))
  have mk2 := Lib.hid (show ∀ wz : World, (Instr.makeSlice 23 (.int .i64 2) (.int .i64 2)).run Try.prog wz = .ok (.slice (some ⟨wz.heap.size, 0, none⟩) 2 2) (wz.alloc (.cells (u8s (zerosB 64)) 47)) from fun wz => run_makeI (P := Try.prog) wz 23 47 Try.underlying23 (by kernel_rfl) 2 (by decide))
  have ups := Lib.hid (fun (n : Nat) (hn : n ≤ 200) (wz : World) => (show Calls Try.prog 15 #[.int .i64 (n : Int)] wz fun e w' => ∃ a c, e = .returned (.slice a n c) ∧ OwnI wz.heap.size 47 w' (.slice a n c) n (risF n) ∧ Below wz.heap.size wz w' from ups_any n hn wz))
  have mk8 := Lib.hid (show ∀ wz : World, (Instr.makeSlice 24 (.int .i64 8) (.int .i64 8)).run Try.prog wz = .ok (.slice (some ⟨wz.heap.size, 0, none⟩) 8 8) (wz.alloc (.cells (madeCells #[.slice none 0 0] 8) 29)) from fun wz => run_makeLs wz .i64 8 (by decide))
  have u40 := Lib.hid (show ∀ wz : World, Calls Try.prog 15 #[.int .i64 40] wz fun e w' => ∃ a c, e = .returned (.slice a 40 c) ∧ OwnI wz.heap.size 47 w' (.slice a 40 c) 40 (risF 40) ∧ Below wz.heap.size wz w' from fun wz => ups_any 40 (by decide) wz)
  have u60 := Lib.hid (show ∀ wz : World, Calls Try.prog 15 #[.int .i64 60] wz fun e w' => ∃ a c, e = .returned (.slice a 60 c) ∧ OwnI wz.heap.size 47 w' (.slice a 60 c) 60 (risF 60) ∧ Below wz.heap.size wz w' from fun wz => ups_any 60 (by decide) wz)
  have u61 := Lib.hid (show ∀ wz : World, Calls Try.prog 15 #[.int .i64 61] wz fun e w' => ∃ a c, e = .returned (.slice a 61 c) ∧ OwnI wz.heap.size 47 w' (.slice a 61 c) 61 (risF 61) ∧ Below wz.heap.size wz w' from fun wz => ups_any 61 (by decide) wz)
  have e8 := Lib.hid (fun (wz : World) => (show Calls Try.prog 7 #[.agg #[.int .u8 5, .int .u64 0, .slice none 0 0, .slice (some ⟨wz.heap.size, 0, none⟩) 8 8]] (wz.alloc (.cells (madeCells #[.slice none 0 0] 8) 29)) fun e w' => ∃ a c, e = .returned (.tuple #[.slice a 10 c, .int .i64 0]) ∧ Below wz.heap.size wz w' from
    (enc_8 _ _ (rd_emptyF wz 8 (by decide))).mono fun e w' ⟨a, c, h1, h2⟩ => ⟨a, c, h1, (below_a wz _).trans (h2.mono (by simp))⟩))
  have s2 := Lib.hid (fun (wz : World) => (show Calls Try.prog 9 #[.slice (some ⟨wz.heap.size, 0, none⟩) 2 2, .int .u8 2] (wz.alloc (.cells (u8s (zerosB 64)) 47)) fun e w' => ∃ a c, e = .returned (.tuple #[.slice a 0 c, .int .i64 32]) ∧ Below wz.heap.size wz w' from
    (spl_g _ _ (rdI_row (heap_alloc_new wz _) 2 (by decide) (by decide))).mono fun e w' ⟨a, c, h1, h2⟩ => ⟨a, c, h1, (below_a wz _).trans (h2.mono (by simp))⟩))
  have hS0 := Lib.hid (Below.refl w.heap.size w)
  clear hmk
  go_enter Try.func4, Try.ntmps4
  go_upto_region 2 with fail
  obtain ⟨W1, hW1⟩ : ∃ W, W = w.alloc (.cells (u8s (zerosB 400)) 5) := ⟨_, rfl⟩
  rw [← hW1]
  have xL := Lib.hid (show RdB W1 (.slice (some ⟨w.heap.size, 0, none⟩) 400 400) (zerosB 400) by rw [hW1]; exact rdB_row (cs := zerosB 400) (heap_alloc_new w _) 400 (zerosB_length 400) (by decide))
  replace hS0 := Lib.hid (show Below w.heap.size w W1 by rw [hW1]; exact below_a w _)
  clear hW1
  go_upto_region 3 with fail
  obtain ⟨W2, hW2⟩ : ∃ W, W = (W1.alloc (.cells (u8s (zerosB 383)) 5)).alloc (.cells #[(.slice (some ⟨w.heap.size, 0, none⟩) 400 400), (.slice (some ⟨w.heap.size, 0, none⟩) 400 400), (.slice (some ⟨w.heap.size, 0, none⟩) 400 400), (.slice (some ⟨w.heap.size, 0, none⟩) 400 400), .slice (some ⟨W1.heap.size, 0, none⟩) 383 383] 29) := ⟨_, rfl⟩
  rw [← hW2]
  have hbW2 := Lib.hid (show Below W1.heap.size W1 W2 by rw [hW2]; exact below_aa W1 _ _)
  have x5 := Lib.hid (show RdS W2 (.slice (some ⟨W1.heap.size + 1, 0, none⟩) 5 5) five by
    have h := rd_fiveF (W1.alloc (.cells (u8s (zerosB 383)) 5)) (.slice (some ⟨w.heap.size, 0, none⟩) 400 400) (.slice (some ⟨W1.heap.size, 0, none⟩) 383 383) 383 (xL.out.mono (below_a W1 _)) (rdB_row (cs := zerosB 383) (heap_alloc_new W1 _) 383 (zerosB_length 383) (by decide))
    rw [show (W1.alloc (.cells (u8s (zerosB 383)) 5)).heap.size = W1.heap.size + 1 by simp, ← hW2] at h
    exact h)
  replace xL := Lib.hid (xL.out.mono hbW2.out)
  replace hS0 := Lib.hid (hS0.out.trans (Below.mono hbW2.out hS0.out.size))
  clear hbW2 hW2
  go_upto_region 4 with fail
  obtain ⟨W3, hW3⟩ : ∃ W, W = (W2.alloc (.cells (u8s (zerosB 384)) 5)).alloc (.cells #[(.slice (some ⟨w.heap.size, 0, none⟩) 400 400), (.slice (some ⟨w.heap.size, 0, none⟩) 400 400), (.slice (some ⟨w.heap.size, 0, none⟩) 400 400), (.slice (some ⟨w.heap.size, 0, none⟩) 400 400), .slice (some ⟨W2.heap.size, 0, none⟩) 384 384] 29) := ⟨_, rfl⟩
  rw [← hW3]
  have hbW3 := Lib.hid (show Below W2.heap.size W2 W3 by rw [hW3]; exact below_aa W2 _ _)
  have x6 := Lib.hid (show RdS W3 (.slice (some ⟨W2.heap.size + 1, 0, none⟩) 5 5) six by
    have h := rd_fiveF (W2.alloc (.cells (u8s (zerosB 384)) 5)) (.slice (some ⟨w.heap.size, 0, none⟩) 400 400) (.slice (some ⟨W2.heap.size, 0, none⟩) 384 384) 384 (xL.out.mono (below_a W2 _)) (rdB_row (cs := zerosB 384) (heap_alloc_new W2 _) 384 (zerosB_length 384) (by decide))
    rw [show (W2.alloc (.cells (u8s (zerosB 384)) 5)).heap.size = W2.heap.size + 1 by simp, ← hW3] at h
    exact h)
  replace x5 := Lib.hid (x5.out.mono hbW3.out)
  clear xL
  replace hS0 := Lib.hid (hS0.out.trans (Below.mono hbW3.out hS0.out.size))
  clear hbW3 hW3
  clear m400 m383 m384
  obtain ⟨g5, hg5⟩ : ∃ g, g = W1.heap.size + 1 := ⟨_, rfl⟩
  obtain ⟨g6, hg6⟩ : ∃ g, g = W2.heap.size + 1 := ⟨_, rfl⟩
  rw [← hg5] at x5
  rw [← hg6] at x6
  rw [← hg5, ← hg6]
  clear hg5 hg6
  refine wp_region_fx 27 fnA (by kernel_rfl) (by kernel_rfl) (fun i => (fnK i).P) (fun _ a b => Below a.heap.size a b) (fun wz => Below W3.heap.size W3 wz) (fun _ _ => True)
    (Below.refl _ _).drew (fun _ _ => trivial) (fun i a b hi h hg => h.trans (Below.mono hg h.size)) (fun i j v a b hi hj ha _ h hg => (fnK j).keep v a b h hg) (fun i j a b hi hj ha _ h hg => trivial) ?hstep ?hdone
  case hstep =>
    intro i op vs wz hi hop hinv hpre hd
    match i, hi with
    | 0, _ =>
      simp only [List.getElem?_toArray, List.getElem?_cons_zero, List.getElem?_cons_succ, Option.some.injEq] at hop
      subst hop
      generalize hfr : fxF _ vs fxT _ 0 = fr
      clear hfr
      have ec : ∀ v, fr.eval (.const v) = v := fun _ => rfl
      refine fx_val (v := .agg #[.int .u8 0, .int .u64 0, .slice none 0 0, .slice none 0 0]) (w' := wz) rfl ?_ ⟨⟨none, 0, none, 0, rfl, .inl ⟨none, 0, rfl, fun _ => rfl, rfl, rfl⟩, RdS.nil _⟩, Below.refl _ _⟩
      unfold execOp
      generalize fr.eval = ev at ec ⊢
      simp [go_sem, ec]
    | 1, _ =>
      simp only [List.getElem?_toArray, List.getElem?_cons_zero, List.getElem?_cons_succ, Option.some.injEq] at hop
      subst hop
      generalize hfr : fxF _ vs fxT _ 1 = fr
      clear hfr
      have ec : ∀ v, fr.eval (.const v) = v := fun _ => rfl
      refine fx_val (v := .agg #[.int .u8 7, .int .u64 0, .slice none 0 0, .slice none 0 0]) (w' := wz) rfl ?_ ⟨⟨none, 0, none, 0, rfl, .inl ⟨none, 0, rfl, fun _ => rfl, rfl, rfl⟩, RdS.nil _⟩, Below.refl _ _⟩
      unfold execOp
      generalize fr.eval = ev at ec ⊢
      simp [go_sem, ec]
    | 2, _ =>
      simp only [List.getElem?_toArray, List.getElem?_cons_zero, List.getElem?_cons_succ, Option.some.injEq] at hop
      subst hop
      generalize hfr : fxF _ vs fxT _ 2 = fr
      clear hfr
      have ec : ∀ v, fr.eval (.const v) = v := fun _ => rfl
      refine fx_call #[.int .i64 1] rfl rfl Try.func15 (by kernel_rfl) rfl (by simp [ec]) rfl ((ups.out 1 (by decide) wz).mono ?_)
      rintro e9 w9 ⟨a, c, rfl, z1, z2⟩
      exact ⟨_, rfl, ⟨a, c, rfl, z1.rd⟩, z2⟩
    | 3, _ =>
      simp only [List.getElem?_toArray, List.getElem?_cons_zero, List.getElem?_cons_succ, Option.some.injEq] at hop
      subst hop
      obtain ⟨a, c, hv, hr⟩ : (fnK 2).P (vs 2) wz := hd 2 (by decide)
      generalize hfr : fxF _ vs fxT _ 3 = fr
      have e1 : fr.eval (.tmp 47) = .slice a 1 c := by rw [← hfr]; exact (fx_new (by simp) 3 (by kernel_rfl)).trans hv
      clear hfr
      have ec : ∀ v, fr.eval (.const v) = v := fun _ => rfl
      refine fx_val (v := .agg #[.int .u8 1, .int .u64 0, .slice a 1 c, .slice none 0 0]) (w' := wz) rfl ?_ ⟨⟨a, c, none, 0, rfl, hr, RdS.nil _⟩, Below.refl _ _⟩
      unfold execOp
      generalize fr.eval = ev at ec e1 ⊢
      simp [go_sem, ec, e1]
    | 4, _ =>
      simp only [List.getElem?_toArray, List.getElem?_cons_zero, List.getElem?_cons_succ, Option.some.injEq] at hop
      subst hop
      generalize hfr : fxF _ vs fxT _ 4 = fr
      clear hfr
      have ec : ∀ v, fr.eval (.const v) = v := fun _ => rfl
      refine fx_val (v := .slice (some ⟨wz.heap.size, 0, none⟩) 1 1) (w' := wz.alloc (.cells (madeCells #[.slice none 0 0] 1) 29)) rfl ?_ ⟨⟨_, _, rfl, rd_emptyF wz 1 (by decide)⟩, below_a wz _⟩
      have hm := mk1.out wz
      unfold execOp
      generalize fr.eval = ev at ec ⊢
      simp [go_sem, hm, ec]
    | 5, _ =>
      simp only [List.getElem?_toArray, List.getElem?_cons_zero, List.getElem?_cons_succ, Option.some.injEq] at hop
      subst hop
      obtain ⟨a, c, hv, hr⟩ : (fnK 4).P (vs 4) wz := hd 4 (by decide)
      generalize hfr : fxF _ vs fxT _ 5 = fr
      have e1 : fr.eval (.tmp 49) = .slice a 1 c := by rw [← hfr]; exact (fx_new (by simp) 5 (by kernel_rfl)).trans hv
      clear hfr
      have ec : ∀ v, fr.eval (.const v) = v := fun _ => rfl
      refine fx_val (v := .agg #[.int .u8 6, .int .u64 0, .slice none 0 0, .slice a 1 c]) (w' := wz) rfl ?_ ⟨⟨none, 0, a, c, rfl, .inl ⟨none, 0, rfl, fun _ => rfl, rfl, rfl⟩, hr⟩, Below.refl _ _⟩
      unfold execOp
      generalize fr.eval = ev at ec e1 ⊢
      simp [go_sem, ec, e1]
    | 6, _ =>
      simp only [List.getElem?_toArray, List.getElem?_cons_zero, List.getElem?_cons_succ, Option.some.injEq] at hop
      subst hop
      generalize hfr : fxF _ vs fxT _ 6 = fr
      clear hfr
      have ec : ∀ v, fr.eval (.const v) = v := fun _ => rfl
      refine fx_val (v := .agg #[.int .u8 2, .int .u64 1, .slice none 0 0, .slice none 0 0]) (w' := wz) rfl ?_ ⟨⟨none, 0, none, 0, rfl, .inl ⟨none, 0, rfl, fun _ => rfl, rfl, rfl⟩, RdS.nil _⟩, Below.refl _ _⟩
      unfold execOp
      generalize fr.eval = ev at ec ⊢
      simp [go_sem, ec]
    | 7, _ =>
      simp only [List.getElem?_toArray, List.getElem?_cons_zero, List.getElem?_cons_succ, Option.some.injEq] at hop
      subst hop
      generalize hfr : fxF _ vs fxT _ 7 = fr
      clear hfr
      have ec : ∀ v, fr.eval (.const v) = v := fun _ => rfl
      refine fx_val (v := .slice (some ⟨wz.heap.size, 0, none⟩) 1 1) (w' := wz.alloc (.cells (madeCells #[.slice none 0 0] 1) 29)) rfl ?_ ⟨⟨_, _, rfl, rd_emptyF wz 1 (by decide)⟩, below_a wz _⟩
      have hm := mk1.out wz
      unfold execOp
      generalize fr.eval = ev at ec ⊢
      simp [go_sem, hm, ec]
    | 8, _ =>
      simp only [List.getElem?_toArray, List.getElem?_cons_zero, List.getElem?_cons_succ, Option.some.injEq] at hop
      subst hop
      obtain ⟨a, c, hv, hr⟩ : (fnK 7).P (vs 7) wz := hd 7 (by decide)
      generalize hfr : fxF _ vs fxT _ 8 = fr
      have e1 : fr.eval (.tmp 52) = .slice a 1 c := by rw [← hfr]; exact (fx_new (by simp) 8 (by kernel_rfl)).trans hv
      clear hfr
      have ec : ∀ v, fr.eval (.const v) = v := fun _ => rfl
      refine fx_val (v := .agg #[.int .u8 3, .int .u64 0, .slice none 0 0, .slice a 1 c]) (w' := wz) rfl ?_ ⟨⟨none, 0, a, c, rfl, .inl ⟨none, 0, rfl, fun _ => rfl, rfl, rfl⟩, hr⟩, Below.refl _ _⟩
      unfold execOp
      generalize fr.eval = ev at ec e1 ⊢
      simp [go_sem, ec, e1]
    | 9, _ =>
      simp only [List.getElem?_toArray, List.getElem?_cons_zero, List.getElem?_cons_succ, Option.some.injEq] at hop
      subst hop
      generalize hfr : fxF _ vs fxT _ 9 = fr
      clear hfr
      have ec : ∀ v, fr.eval (.const v) = v := fun _ => rfl
      refine fx_call #[.int .i64 41] rfl rfl Try.func15 (by kernel_rfl) rfl (by simp [ec]) rfl ((ups.out 41 (by decide) wz).mono ?_)
      rintro e9 w9 ⟨a, c, rfl, z1, z2⟩
      exact ⟨_, rfl, ⟨a, c, rfl, z1.rd⟩, z2⟩
    | 10, _ =>
      simp only [List.getElem?_toArray, List.getElem?_cons_zero, List.getElem?_cons_succ, Option.some.injEq] at hop
      subst hop
      obtain ⟨a, c, hv, hr⟩ : (fnK 9).P (vs 9) wz := hd 9 (by decide)
      generalize hfr : fxF _ vs fxT _ 10 = fr
      have e1 : fr.eval (.tmp 54) = .slice a 41 c := by rw [← hfr]; exact (fx_new (by simp) 10 (by kernel_rfl)).trans hv
      clear hfr
      have ec : ∀ v, fr.eval (.const v) = v := fun _ => rfl
      refine fx_val (v := .agg #[.int .u8 4, .int .u64 0, .slice a 41 c, .slice none 0 0]) (w' := wz) rfl ?_ ⟨⟨a, c, none, 0, rfl, hr, RdS.nil _⟩, Below.refl _ _⟩
      unfold execOp
      generalize fr.eval = ev at ec e1 ⊢
      simp [go_sem, ec, e1]
    | 11, _ =>
      simp only [List.getElem?_toArray, List.getElem?_cons_zero, List.getElem?_cons_succ, Option.some.injEq] at hop
      subst hop
      generalize hfr : fxF _ vs fxT _ 11 = fr
      clear hfr
      have ec : ∀ v, fr.eval (.const v) = v := fun _ => rfl
      refine fx_val (v := .slice (some ⟨wz.heap.size, 0, none⟩) 2 2) (w' := wz.alloc (.cells (u8s (zerosB 64)) 47)) rfl ?_ ⟨⟨_, _, rfl, rdI_row (heap_alloc_new wz _) 2 (by decide) (by decide)⟩, below_a wz _⟩
      have hm := mk2.out wz
      unfold execOp
      generalize fr.eval = ev at ec ⊢
      simp [go_sem, hm, ec]
    | 12, _ =>
      simp only [List.getElem?_toArray, List.getElem?_cons_zero, List.getElem?_cons_succ, Option.some.injEq] at hop
      subst hop
      obtain ⟨a, c, hv, hr⟩ : (fnK 11).P (vs 11) wz := hd 11 (by decide)
      generalize hfr : fxF _ vs fxT _ 12 = fr
      have e1 : fr.eval (.tmp 56) = .slice a 2 c := by rw [← hfr]; exact (fx_new (by simp) 12 (by kernel_rfl)).trans hv
      clear hfr
      have ec : ∀ v, fr.eval (.const v) = v := fun _ => rfl
      refine fx_val (v := .agg #[.int .u8 2, .int .u64 0, .slice a 2 c, .slice none 0 0]) (w' := wz) rfl ?_ ⟨⟨a, c, none, 0, rfl, hr, RdS.nil _⟩, Below.refl _ _⟩
      unfold execOp
      generalize fr.eval = ev at ec e1 ⊢
      simp [go_sem, ec, e1]
    | 13, _ =>
      simp only [List.getElem?_toArray, List.getElem?_cons_zero, List.getElem?_cons_succ, Option.some.injEq] at hop
      subst hop
      generalize hfr : fxF _ vs fxT _ 13 = fr
      clear hfr
      have ec : ∀ v, fr.eval (.const v) = v := fun _ => rfl
      refine fx_val (v := .agg (u8s (idOf 2))) (w' := wz) rfl ?_ ⟨rfl, Below.refl _ _⟩
      unfold execOp
      generalize fr.eval = ev at ec ⊢
      simp [go_sem, ec]
      try rfl
    | 14, _ =>
      simp only [List.getElem?_toArray, List.getElem?_cons_zero, List.getElem?_cons_succ, Option.some.injEq] at hop
      subst hop
      generalize hfr : fxF _ vs fxT _ 14 = fr
      clear hfr
      have ec : ∀ v, fr.eval (.const v) = v := fun _ => rfl
      refine fx_val (v := .agg (u8s (idOf 1))) (w' := wz) rfl ?_ ⟨rfl, Below.refl _ _⟩
      unfold execOp
      generalize fr.eval = ev at ec ⊢
      simp [go_sem, ec]
      try rfl
    | 15, _ =>
      simp only [List.getElem?_toArray, List.getElem?_cons_zero, List.getElem?_cons_succ, Option.some.injEq] at hop
      subst hop
      have h13 : vs 13 = .agg (u8s (idOf 2)) := hd 13 (by decide)
      have h14 : vs 14 = .agg (u8s (idOf 1)) := hd 14 (by decide)
      generalize hfr : fxF _ vs fxT _ 15 = fr
      have e1 : fr.eval (.tmp 58) = .agg (u8s (idOf 2)) := by rw [← hfr]; exact (fx_new (by simp) 15 (by kernel_rfl)).trans h13
      have e2 : fr.eval (.tmp 59) = .agg (u8s (idOf 1)) := by rw [← hfr]; exact (fx_new (by simp) 15 (by kernel_rfl)).trans h14
      clear hfr
      refine fx_val (v := .slice (some ⟨wz.heap.size, 0, none⟩) 2 2) (w' := wz.alloc (.cells (u8s (idOf 2 ++ idOf 1)) 47)) rfl ?_ ⟨⟨_, _, rfl, rdI_row (heap_alloc_new wz _) 2 (by decide) (by decide)⟩, below_a wz _⟩
      unfold execOp
      generalize fr.eval = ev at e1 e2 ⊢
      simp [go_sem, e1, e2]
      try rfl
    | 16, _ =>
      simp only [List.getElem?_toArray, List.getElem?_cons_zero, List.getElem?_cons_succ, Option.some.injEq] at hop
      subst hop
      obtain ⟨a, c, hv, hr⟩ : (fnK 15).P (vs 15) wz := hd 15 (by decide)
      generalize hfr : fxF _ vs fxT _ 16 = fr
      have e1 : fr.eval (.tmp 60) = .slice a 2 c := by rw [← hfr]; exact (fx_new (by simp) 16 (by kernel_rfl)).trans hv
      clear hfr
      have ec : ∀ v, fr.eval (.const v) = v := fun _ => rfl
      refine fx_val (v := .agg #[.int .u8 2, .int .u64 0, .slice a 2 c, .slice none 0 0]) (w' := wz) rfl ?_ ⟨⟨a, c, none, 0, rfl, hr, RdS.nil _⟩, Below.refl _ _⟩
      unfold execOp
      generalize fr.eval = ev at ec e1 ⊢
      simp [go_sem, ec, e1]
    | 17, _ =>
      simp only [List.getElem?_toArray, List.getElem?_cons_zero, List.getElem?_cons_succ, Option.some.injEq] at hop
      subst hop
      generalize hfr : fxF _ vs fxT _ 17 = fr
      clear hfr
      have ec : ∀ v, fr.eval (.const v) = v := fun _ => rfl
      refine fx_val (v := .agg #[.int .u8 5, .int .u64 1, .slice none 0 0, .slice none 0 0]) (w' := wz) rfl ?_ ⟨⟨none, 0, none, 0, rfl, .inl ⟨none, 0, rfl, fun _ => rfl, rfl, rfl⟩, RdS.nil _⟩, Below.refl _ _⟩
      unfold execOp
      generalize fr.eval = ev at ec ⊢
      simp [go_sem, ec]
    | 18, _ =>
      simp only [List.getElem?_toArray, List.getElem?_cons_zero, List.getElem?_cons_succ, Option.some.injEq] at hop
      subst hop
      generalize hfr : fxF _ vs fxT _ 18 = fr
      clear hfr
      have ec : ∀ v, fr.eval (.const v) = v := fun _ => rfl
      refine fx_call #[.int .i64 1] rfl rfl Try.func15 (by kernel_rfl) rfl (by simp [ec]) rfl ((ups.out 1 (by decide) wz).mono ?_)
      rintro e9 w9 ⟨a, c, rfl, z1, z2⟩
      exact ⟨_, rfl, ⟨a, c, rfl, z1.rd⟩, z2⟩
    | 19, _ =>
      simp only [List.getElem?_toArray, List.getElem?_cons_zero, List.getElem?_cons_succ, Option.some.injEq] at hop
      subst hop
      obtain ⟨a, c, hv, hr⟩ : (fnK 18).P (vs 18) wz := hd 18 (by decide)
      generalize hfr : fxF _ vs fxT _ 19 = fr
      have e1 : fr.eval (.tmp 63) = .slice a 1 c := by rw [← hfr]; exact (fx_new (by simp) 19 (by kernel_rfl)).trans hv
      clear hfr
      have ec : ∀ v, fr.eval (.const v) = v := fun _ => rfl
      refine fx_val (v := .agg #[.int .u8 5, .int .u64 0, .slice a 1 c, .slice none 0 0]) (w' := wz) rfl ?_ ⟨⟨a, c, none, 0, rfl, hr, RdS.nil _⟩, Below.refl _ _⟩
      unfold execOp
      generalize fr.eval = ev at ec e1 ⊢
      simp [go_sem, ec, e1]
    | 20, _ =>
      simp only [List.getElem?_toArray, List.getElem?_cons_zero, List.getElem?_cons_succ, Option.some.injEq] at hop
      subst hop
      generalize hfr : fxF _ vs fxT _ 20 = fr
      clear hfr
      have ec : ∀ v, fr.eval (.const v) = v := fun _ => rfl
      refine fx_val (v := .slice (some ⟨wz.heap.size, 0, none⟩) 9 9) (w' := wz.alloc (.cells (madeCells #[.slice none 0 0] 9) 29)) rfl ?_ ⟨⟨_, _, rfl, rd_emptyF wz 9 (by decide)⟩, below_a wz _⟩
      have hm := mk9.out wz
      unfold execOp
      generalize fr.eval = ev at ec ⊢
      simp [go_sem, hm, ec]
    | 21, _ =>
      simp only [List.getElem?_toArray, List.getElem?_cons_zero, List.getElem?_cons_succ, Option.some.injEq] at hop
      subst hop
      obtain ⟨a, c, hv, hr⟩ : (fnK 20).P (vs 20) wz := hd 20 (by decide)
      generalize hfr : fxF _ vs fxT _ 21 = fr
      have e1 : fr.eval (.tmp 65) = .slice a 9 c := by rw [← hfr]; exact (fx_new (by simp) 21 (by kernel_rfl)).trans hv
      clear hfr
      have ec : ∀ v, fr.eval (.const v) = v := fun _ => rfl
      refine fx_val (v := .agg #[.int .u8 5, .int .u64 0, .slice none 0 0, .slice a 9 c]) (w' := wz) rfl ?_ ⟨⟨none, 0, a, c, rfl, .inl ⟨none, 0, rfl, fun _ => rfl, rfl, rfl⟩, hr⟩, Below.refl _ _⟩
      unfold execOp
      generalize fr.eval = ev at ec e1 ⊢
      simp [go_sem, ec, e1]
    | 22, _ =>
      simp only [List.getElem?_toArray, List.getElem?_cons_zero, List.getElem?_cons_succ, Option.some.injEq] at hop
      subst hop
      generalize hfr : fxF _ vs fxT _ 22 = fr
      clear hfr
      have ec : ∀ v, fr.eval (.const v) = v := fun _ => rfl
      refine fx_val (v := .slice (some ⟨wz.heap.size, 0, none⟩) 401 401) (w' := wz.alloc (.cells (u8s (zerosB 401)) 5)) rfl ?_ ⟨⟨_, _, rfl, rdB_row (cs := zerosB 401) (heap_alloc_new wz _) 401 (zerosB_length 401) (by decide)⟩, below_a wz _⟩
      have hm := mk401.out wz
      unfold execOp
      generalize fr.eval = ev at ec ⊢
      simp [go_sem, hm, ec]
    | 23, _ =>
      simp only [List.getElem?_toArray, List.getElem?_cons_zero, List.getElem?_cons_succ, Option.some.injEq] at hop
      subst hop
      obtain ⟨a, c, hv, hr⟩ : (fnK 22).P (vs 22) wz := hd 22 (by decide)
      generalize hfr : fxF _ vs fxT _ 23 = fr
      have e1 : fr.eval (.tmp 67) = .slice a 401 c := by rw [← hfr]; exact (fx_new (by simp) 23 (by kernel_rfl)).trans (hv.trans (by rw [zerosB_length]))
      clear hfr
      rw [zerosB_length] at hr
      refine fx_val (v := .slice (some ⟨wz.heap.size, 0, none⟩) 1 1) (w' := wz.alloc (.cells #[.slice a 401 c] 29)) rfl ?_ ⟨⟨_, _, rfl, rd_oneF wz _ _ hr⟩, below_a wz _⟩
      unfold execOp
      generalize fr.eval = ev at e1 ⊢
      simp [go_sem, e1]
    | 24, _ =>
      simp only [List.getElem?_toArray, List.getElem?_cons_zero, List.getElem?_cons_succ, Option.some.injEq] at hop
      subst hop
      obtain ⟨a, c, hv, hr⟩ : (fnK 23).P (vs 23) wz := hd 23 (by decide)
      generalize hfr : fxF _ vs fxT _ 24 = fr
      have e1 : fr.eval (.tmp 68) = .slice a 1 c := by rw [← hfr]; exact (fx_new (by simp) 24 (by kernel_rfl)).trans hv
      clear hfr
      have ec : ∀ v, fr.eval (.const v) = v := fun _ => rfl
      refine fx_val (v := .agg #[.int .u8 5, .int .u64 0, .slice none 0 0, .slice a 1 c]) (w' := wz) rfl ?_ ⟨⟨none, 0, a, c, rfl, .inl ⟨none, 0, rfl, fun _ => rfl, rfl, rfl⟩, hr⟩, Below.refl _ _⟩
      unfold execOp
      generalize fr.eval = ev at ec e1 ⊢
      simp [go_sem, ec, e1]
    | 25, _ =>
      simp only [List.getElem?_toArray, List.getElem?_cons_zero, List.getElem?_cons_succ, Option.some.injEq] at hop
      subst hop
      generalize hfr : fxF _ vs fxT _ 25 = fr
      have e1 : fr.eval (.tmp 3) = .slice (some ⟨g6, 0, none⟩) 5 5 := by rw [← hfr]; exact fx_old 25 (by kernel_rfl)
      clear hfr
      refine fx_val (v := .slice (some ⟨g6, 0, none⟩) 5 5) (w' := wz) rfl ?_ ⟨⟨_, _, rfl, x6.out.mono hinv⟩, Below.refl _ _⟩
      unfold execOp
      generalize fr.eval = ev at e1 ⊢
      simp [go_sem, e1]
    | 26, _ =>
      simp only [List.getElem?_toArray, List.getElem?_cons_zero, List.getElem?_cons_succ, Option.some.injEq] at hop
      subst hop
      obtain ⟨a, c, hv, hr⟩ : (fnK 25).P (vs 25) wz := hd 25 (by decide)
      generalize hfr : fxF _ vs fxT _ 26 = fr
      have e1 : fr.eval (.tmp 70) = .slice a 5 c := by rw [← hfr]; exact (fx_new (by simp) 26 (by kernel_rfl)).trans hv
      clear hfr
      have ec : ∀ v, fr.eval (.const v) = v := fun _ => rfl
      refine fx_val (v := .agg #[.int .u8 5, .int .u64 0, .slice none 0 0, .slice a 5 c]) (w' := wz) rfl ?_ ⟨⟨none, 0, a, c, rfl, .inl ⟨none, 0, rfl, fun _ => rfl, rfl, rfl⟩, hr⟩, Below.refl _ _⟩
      unfold execOp
      generalize fr.eval = ev at ec e1 ⊢
      simp [go_sem, ec, e1]
    | j + 27, hj => exact absurd hj (by omega)
  case hdone =>
    intro vs w5 hinv hf
    obtain ⟨ia0, ic0, oa0, oc0, e0, hi0, ho0⟩ : ∃ ia ic oa oc, vs 0 = .agg #[.int .u8 0, .int .u64 0, .slice ia 0 ic, .slice oa 0 oc] ∧ RdI w5 (.slice ia 0 ic) (nthF bads 0).n (nthF bads 0).F ∧ RdS w5 (.slice oa 0 oc) (nthF bads 0).L := hf 0 (by decide)
    obtain ⟨ia1, ic1, oa1, oc1, e1, hi1, ho1⟩ : ∃ ia ic oa oc, vs 1 = .agg #[.int .u8 7, .int .u64 0, .slice ia 0 ic, .slice oa 0 oc] ∧ RdI w5 (.slice ia 0 ic) (nthF bads 1).n (nthF bads 1).F ∧ RdS w5 (.slice oa 0 oc) (nthF bads 1).L := hf 1 (by decide)
    obtain ⟨ia2, ic2, oa2, oc2, e2, hi2, ho2⟩ : ∃ ia ic oa oc, vs 3 = .agg #[.int .u8 1, .int .u64 0, .slice ia 1 ic, .slice oa 0 oc] ∧ RdI w5 (.slice ia 1 ic) (nthF bads 2).n (nthF bads 2).F ∧ RdS w5 (.slice oa 0 oc) (nthF bads 2).L := hf 3 (by decide)
    obtain ⟨ia3, ic3, oa3, oc3, e3, hi3, ho3⟩ : ∃ ia ic oa oc, vs 5 = .agg #[.int .u8 6, .int .u64 0, .slice ia 0 ic, .slice oa 1 oc] ∧ RdI w5 (.slice ia 0 ic) (nthF bads 3).n (nthF bads 3).F ∧ RdS w5 (.slice oa 1 oc) (nthF bads 3).L := hf 5 (by decide)
    obtain ⟨ia4, ic4, oa4, oc4, e4, hi4, ho4⟩ : ∃ ia ic oa oc, vs 6 = .agg #[.int .u8 2, .int .u64 1, .slice ia 0 ic, .slice oa 0 oc] ∧ RdI w5 (.slice ia 0 ic) (nthF bads 4).n (nthF bads 4).F ∧ RdS w5 (.slice oa 0 oc) (nthF bads 4).L := hf 6 (by decide)
    obtain ⟨ia5, ic5, oa5, oc5, e5, hi5, ho5⟩ : ∃ ia ic oa oc, vs 8 = .agg #[.int .u8 3, .int .u64 0, .slice ia 0 ic, .slice oa 1 oc] ∧ RdI w5 (.slice ia 0 ic) (nthF bads 5).n (nthF bads 5).F ∧ RdS w5 (.slice oa 1 oc) (nthF bads 5).L := hf 8 (by decide)
    obtain ⟨ia6, ic6, oa6, oc6, e6, hi6, ho6⟩ : ∃ ia ic oa oc, vs 10 = .agg #[.int .u8 4, .int .u64 0, .slice ia 41 ic, .slice oa 0 oc] ∧ RdI w5 (.slice ia 41 ic) (nthF bads 6).n (nthF bads 6).F ∧ RdS w5 (.slice oa 0 oc) (nthF bads 6).L := hf 10 (by decide)
    obtain ⟨ia7, ic7, oa7, oc7, e7, hi7, ho7⟩ : ∃ ia ic oa oc, vs 12 = .agg #[.int .u8 2, .int .u64 0, .slice ia 2 ic, .slice oa 0 oc] ∧ RdI w5 (.slice ia 2 ic) (nthF bads 7).n (nthF bads 7).F ∧ RdS w5 (.slice oa 0 oc) (nthF bads 7).L := hf 12 (by decide)
    obtain ⟨ia8, ic8, oa8, oc8, e8, hi8, ho8⟩ : ∃ ia ic oa oc, vs 16 = .agg #[.int .u8 2, .int .u64 0, .slice ia 2 ic, .slice oa 0 oc] ∧ RdI w5 (.slice ia 2 ic) (nthF bads 8).n (nthF bads 8).F ∧ RdS w5 (.slice oa 0 oc) (nthF bads 8).L := hf 16 (by decide)
    obtain ⟨ia9, ic9, oa9, oc9, e9, hi9, ho9⟩ : ∃ ia ic oa oc, vs 17 = .agg #[.int .u8 5, .int .u64 1, .slice ia 0 ic, .slice oa 0 oc] ∧ RdI w5 (.slice ia 0 ic) (nthF bads 9).n (nthF bads 9).F ∧ RdS w5 (.slice oa 0 oc) (nthF bads 9).L := hf 17 (by decide)
    obtain ⟨ia10, ic10, oa10, oc10, e10, hi10, ho10⟩ : ∃ ia ic oa oc, vs 19 = .agg #[.int .u8 5, .int .u64 0, .slice ia 1 ic, .slice oa 0 oc] ∧ RdI w5 (.slice ia 1 ic) (nthF bads 10).n (nthF bads 10).F ∧ RdS w5 (.slice oa 0 oc) (nthF bads 10).L := hf 19 (by decide)
    obtain ⟨ia11, ic11, oa11, oc11, e11, hi11, ho11⟩ : ∃ ia ic oa oc, vs 21 = .agg #[.int .u8 5, .int .u64 0, .slice ia 0 ic, .slice oa 9 oc] ∧ RdI w5 (.slice ia 0 ic) (nthF bads 11).n (nthF bads 11).F ∧ RdS w5 (.slice oa 9 oc) (nthF bads 11).L := hf 21 (by decide)
    obtain ⟨ia12, ic12, oa12, oc12, e12, hi12, ho12⟩ : ∃ ia ic oa oc, vs 24 = .agg #[.int .u8 5, .int .u64 0, .slice ia 0 ic, .slice oa 1 oc] ∧ RdI w5 (.slice ia 0 ic) (nthF bads 12).n (nthF bads 12).F ∧ RdS w5 (.slice oa 1 oc) (nthF bads 12).L := hf 24 (by decide)
    obtain ⟨ia13, ic13, oa13, oc13, e13, hi13, ho13⟩ : ∃ ia ic oa oc, vs 26 = .agg #[.int .u8 5, .int .u64 0, .slice ia 0 ic, .slice oa 5 oc] ∧ RdI w5 (.slice ia 0 ic) (nthF bads 13).n (nthF bads 13).F ∧ RdS w5 (.slice oa 5 oc) (nthF bads 13).L := hf 26 (by decide)
    simp only [fxF, fxT, if_true, List.drop_succ_cons, List.drop_zero, List.getElem?_toArray, List.getElem?_cons_zero, List.getElem?_cons_succ, Option.bind_some]
    rw [e0, e1, e2, e3, e4, e5, e6, e7, e8, e9, e10, e11, e12, e13]
    clear hf e0 e1 e2 e3 e4 e5 e6 e7 e8 e9 e10 e11 e12 e13
    obtain ⟨w6, hw6⟩ : ∃ x, x = w5.alloc (.cells #[.int .u8 0, .int .u64 0, .slice ia0 0 ic0, .slice oa0 0 oc0, .int .u8 7, .int .u64 0, .slice ia1 0 ic1, .slice oa1 0 oc1, .int .u8 1, .int .u64 0, .slice ia2 1 ic2, .slice oa2 0 oc2, .int .u8 6, .int .u64 0, .slice ia3 0 ic3, .slice oa3 1 oc3, .int .u8 2, .int .u64 1, .slice ia4 0 ic4, .slice oa4 0 oc4, .int .u8 3, .int .u64 0, .slice ia5 0 ic5, .slice oa5 1 oc5, .int .u8 4, .int .u64 0, .slice ia6 41 ic6, .slice oa6 0 oc6, .int .u8 2, .int .u64 0, .slice ia7 2 ic7, .slice oa7 0 oc7, .int .u8 2, .int .u64 0, .slice ia8 2 ic8, .slice oa8 0 oc8, .int .u8 5, .int .u64 1, .slice ia9 0 ic9, .slice oa9 0 oc9, .int .u8 5, .int .u64 0, .slice ia10 1 ic10, .slice oa10 0 oc10, .int .u8 5, .int .u64 0, .slice ia11 0 ic11, .slice oa11 9 oc11, .int .u8 5, .int .u64 0, .slice ia12 0 ic12, .slice oa12 1 oc12, .int .u8 5, .int .u64 0, .slice ia13 0 ic13, .slice oa13 5 oc13] 26) := ⟨_, rfl⟩
    have hrow : w6.heap[w5.heap.size]? = some (.cells #[.int .u8 0, .int .u64 0, .slice ia0 0 ic0, .slice oa0 0 oc0, .int .u8 7, .int .u64 0, .slice ia1 0 ic1, .slice oa1 0 oc1, .int .u8 1, .int .u64 0, .slice ia2 1 ic2, .slice oa2 0 oc2, .int .u8 6, .int .u64 0, .slice ia3 0 ic3, .slice oa3 1 oc3, .int .u8 2, .int .u64 1, .slice ia4 0 ic4, .slice oa4 0 oc4, .int .u8 3, .int .u64 0, .slice ia5 0 ic5, .slice oa5 1 oc5, .int .u8 4, .int .u64 0, .slice ia6 41 ic6, .slice oa6 0 oc6, .int .u8 2, .int .u64 0, .slice ia7 2 ic7, .slice oa7 0 oc7, .int .u8 2, .int .u64 0, .slice ia8 2 ic8, .slice oa8 0 oc8, .int .u8 5, .int .u64 1, .slice ia9 0 ic9, .slice oa9 0 oc9, .int .u8 5, .int .u64 0, .slice ia10 1 ic10, .slice oa10 0 oc10, .int .u8 5, .int .u64 0, .slice ia11 0 ic11, .slice oa11 9 oc11, .int .u8 5, .int .u64 0, .slice ia12 0 ic12, .slice oa12 1 oc12, .int .u8 5, .int .u64 0, .slice ia13 0 ic13, .slice oa13 5 oc13] 26 (0, 0)) := by rw [hw6]; exact heap_alloc_new w5 _
    have hal : Below w5.heap.size w5 w6 := by rw [hw6]; exact below_a w5 _
    have xB : RdFx w6 (.slice (some ⟨w5.heap.size, 0, none⟩) 14 14) bads := by
      refine ⟨_, _, rfl, (Array.getElem?_eq_some_iff.1 hrow).1, fun i hi => ?_⟩
      match i, hi with
      | 0, _ => exact ⟨.slice ia0 0 ic0, .slice oa0 0 oc0, range_of_row hrow (0 * 4) _ rfl, hi0.mono hal, ho0.mono hal⟩
      | 1, _ => exact ⟨.slice ia1 0 ic1, .slice oa1 0 oc1, range_of_row hrow (1 * 4) _ rfl, hi1.mono hal, ho1.mono hal⟩
      | 2, _ => exact ⟨.slice ia2 1 ic2, .slice oa2 0 oc2, range_of_row hrow (2 * 4) _ rfl, hi2.mono hal, ho2.mono hal⟩
      | 3, _ => exact ⟨.slice ia3 0 ic3, .slice oa3 1 oc3, range_of_row hrow (3 * 4) _ rfl, hi3.mono hal, ho3.mono hal⟩
      | 4, _ => exact ⟨.slice ia4 0 ic4, .slice oa4 0 oc4, range_of_row hrow (4 * 4) _ rfl, hi4.mono hal, ho4.mono hal⟩
      | 5, _ => exact ⟨.slice ia5 0 ic5, .slice oa5 1 oc5, range_of_row hrow (5 * 4) _ rfl, hi5.mono hal, ho5.mono hal⟩
      | 6, _ => exact ⟨.slice ia6 41 ic6, .slice oa6 0 oc6, range_of_row hrow (6 * 4) _ rfl, hi6.mono hal, ho6.mono hal⟩
      | 7, _ => exact ⟨.slice ia7 2 ic7, .slice oa7 0 oc7, range_of_row hrow (7 * 4) _ rfl, hi7.mono hal, ho7.mono hal⟩
      | 8, _ => exact ⟨.slice ia8 2 ic8, .slice oa8 0 oc8, range_of_row hrow (8 * 4) _ rfl, hi8.mono hal, ho8.mono hal⟩
      | 9, _ => exact ⟨.slice ia9 0 ic9, .slice oa9 0 oc9, range_of_row hrow (9 * 4) _ rfl, hi9.mono hal, ho9.mono hal⟩
      | 10, _ => exact ⟨.slice ia10 1 ic10, .slice oa10 0 oc10, range_of_row hrow (10 * 4) _ rfl, hi10.mono hal, ho10.mono hal⟩
      | 11, _ => exact ⟨.slice ia11 0 ic11, .slice oa11 9 oc11, range_of_row hrow (11 * 4) _ rfl, hi11.mono hal, ho11.mono hal⟩
      | 12, _ => exact ⟨.slice ia12 0 ic12, .slice oa12 1 oc12, range_of_row hrow (12 * 4) _ rfl, hi12.mono hal, ho12.mono hal⟩
      | 13, _ => exact ⟨.slice ia13 0 ic13, .slice oa13 5 oc13, range_of_row hrow (13 * 4) _ rfl, hi13.mono hal, ho13.mono hal⟩
      | i + 14, hi => exact absurd hi (by show ¬ i + 14 < 14; omega)
    have hb6 := Lib.hid (hinv.trans (hal.mono hinv.size))
    have xB := Lib.hid xB
    obtain ⟨gB, hgB⟩ : ∃ g, g = w5.heap.size := ⟨_, rfl⟩
    rw [← hgB] at xB
    replace hS0 := Lib.hid (hS0.out.trans (Below.mono hb6.out hS0.out.size))
    replace x5 := Lib.hid (x5.out.mono hb6.out)
    clear hrow hal hinv hb6 x6 hi0 ho0 hi1 ho1 hi2 ho2 hi3 ho3 hi4 ho4 hi5 ho5 hi6 ho6 hi7 ho7 hi8 ho8 hi9 ho9 hi10 ho10 hi11 ho11 hi12 ho12 hi13 ho13
    go_upto_region 5 with fail
    rw [← hgB, ← hw6]
    clear hgB hw6
    go_wp2
    go_loopw [5] (fun i wr => ∃ j : Nat, j ≤ 14 ∧ i = .int .i64 (j : Int) ∧ Below w6.heap.size w6 wr) (fun i _ => 14 - (intOf i).toNat)
    case atStart => exact ⟨0, Nat.zero_le _, rfl, Below.refl _ _⟩
    case round =>
      obtain ⟨j, hj, rfl, hb0⟩ := hrel
      have hS := Lib.hid hb0
      clear hb0
      by_cases hlt : j < 14
      · have hjl := Lib.hid hlt
        have hjI : (j : Int) < 14 := by omega
        obtain ⟨iv, ov, m1, i1, o1⟩ : ∃ iv ov, wr.rangeAt gB (j * 4) ((nthF bads j).c iv ov).toList ∧ RdI wr iv (nthF bads j).n (nthF bads j).F ∧ RdS wr ov (nthF bads j).L := by
          obtain ⟨g, c, e, _, h⟩ := xB.out.mono hS.out
          cases e
          exact h j hjl.out
        have lB := Lib.hid (show gB < wr.heap.size by obtain ⟨g, c, e, h, _⟩ := xB.out.mono hS.out; cases e; exact h)
        have m1 := Lib.hid m1; have i1 := Lib.hid i1; have o1 := Lib.hid o1
        have hfit := bads_at j hlt
        have hE := Lib.hid (fun (wz : World) h1 h2 => enc_no hfit.1 hfit.2 iv ov wz h1 h2)
        have hC := Lib.hid (fun (wz : World) h1 h2 => chk_no hfit.1 hfit.2 iv ov wz h1 h2)
        clear hfit
        generalize nthF bads j = fj at *
        go_wp2_with (first
          | (refine wpList_load_midN rfl 26 _ rfl gB (j * 4) rfl (fj.c iv ov) _ m1.out Try.underlying26 rfl (by kernel_rfl) ?_)
          | (go_at_call 7; (with_reducible refine (hE.out _ i1.out o1.out).mono ?_); rintro e9 w4 ⟨rfl, q2⟩; (replace m1 := Lib.hid (range_belowW m1.out lB.out q2)); (replace lB := Lib.hid (Nat.lt_of_lt_of_le lB.out q2.size)); (try replace i1 := Lib.hid (i1.out.mono q2)); (try replace o1 := Lib.hid (o1.out.mono q2)); replace hS := Lib.hid (hS.out.trans (Below.mono q2 hS.out.size)); clear q2)
          | (go_at_call 11; (with_reducible refine (hC.out _ i1.out o1.out).mono ?_); rintro e9 w4 ⟨rfl, q2⟩; (replace m1 := Lib.hid (range_belowW m1.out lB.out q2)); (replace lB := Lib.hid (Nat.lt_of_lt_of_le lB.out q2.size)); (try replace i1 := Lib.hid (i1.out.mono q2)); (try replace o1 := Lib.hid (o1.out.mono q2)); replace hS := Lib.hid (hS.out.trans (Below.mono q2 hS.out.size)); clear q2))
        have hw1 : IntKind.i64.wrap ((j : Int) + 1) = ((j + 1 : Nat) : Int) := by rw [IntWalk.i64_in _ (by omega)]; omega
        go_roundw
        case rel => exact ⟨j + 1, by have := hjl.out; omega, by go_num, hS.out⟩
        case measure => simp [intOf]; have := hjl.out; omega
      · obtain rfl : j = 14 := by omega
        clear hlt
        replace hS0 := Lib.hid (hS0.out.trans (Below.mono hS.out hS0.out.size))
        replace x5 := Lib.hid (x5.out.mono hS.out)
        clear hS xB
        have m2 := mk2.out
        have m8 := mk8.out
        go_upto_region 12 with (go_at_call 7; (with_reducible refine (enc_five _ _ x5.out).mono ?_); rintro e9 w4 ⟨la, lc, rfl, q2⟩; (try replace x5 := Lib.hid (x5.out.mono q2)); replace hS0 := Lib.hid (hS0.out.trans (Below.mono q2 hS0.out.size)); clear q2)
        clear x5
        go_upto_region 13 with (first
          | (go_at_call 15; (with_reducible refine (u40.out _).mono ?_); rintro e9 w4 ⟨ra, rc, rfl, q1, q2⟩; (try replace k2 := Lib.hid ((q2.cell (p := (⟨gn, 2, none⟩ : Addr)) kg.out).trans k2.out)); (try replace kg := Lib.hid (Nat.lt_of_lt_of_le kg.out q2.size)); (try replace k6 := Lib.hid ((q2.cell (p := (⟨gm, 6, none⟩ : Addr)) kh.out).trans k6.out)); (try replace kh := Lib.hid (Nat.lt_of_lt_of_le kh.out q2.size)); replace hS0 := Lib.hid (hS0.out.trans (Below.mono q2 hS0.out.size)); have xR1 := Lib.hid q1.rd; clear q1; clear q2)
          | (go_at_call 7; (with_reducible refine (enc_40 _ _ xR1.out).mono ?_); rintro e9 w4 ⟨ma, mc, rfl, q2⟩; replace hS0 := Lib.hid (hS0.out.trans (Below.mono q2 hS0.out.size)); clear q2))
        clear xR1
        go_upto_region 14 with (go_at_call 7; (with_reducible refine (e8.out _).mono ?_); rintro e9 w4 ⟨na, nc, rfl, q2⟩; replace hS0 := Lib.hid (hS0.out.trans (Below.mono q2 hS0.out.size)); clear q2)
        go_upto_region 15 with (go_at_call 9; (with_reducible refine (spl_d _).mono ?_); rintro e9 w4 ⟨da, dc, rfl, q2⟩; replace hS0 := Lib.hid (hS0.out.trans (Below.mono q2 hS0.out.size)); clear q2)
        go_upto_region 16 with (go_at_call 9; (with_reducible refine (spl_e _).mono ?_); rintro e9 w4 ⟨ea, ec, rfl, q2⟩; replace hS0 := Lib.hid (hS0.out.trans (Below.mono q2 hS0.out.size)); clear q2)
        go_upto_region 17 with (first
          | (go_at_call 15; (with_reducible refine (u61.out _).mono ?_); rintro e9 w4 ⟨ra, rc, rfl, q1, q2⟩; (try replace k2 := Lib.hid ((q2.cell (p := (⟨gn, 2, none⟩ : Addr)) kg.out).trans k2.out)); (try replace kg := Lib.hid (Nat.lt_of_lt_of_le kg.out q2.size)); (try replace k6 := Lib.hid ((q2.cell (p := (⟨gm, 6, none⟩ : Addr)) kh.out).trans k6.out)); (try replace kh := Lib.hid (Nat.lt_of_lt_of_le kh.out q2.size)); replace hS0 := Lib.hid (hS0.out.trans (Below.mono q2 hS0.out.size)); have xR2 := Lib.hid q1.rd; clear q1; clear q2)
          | (go_at_call 9; (with_reducible refine (spl_f _ _ xR2.out).mono ?_); rintro e9 w4 ⟨fa, fc, rfl, q2⟩; replace hS0 := Lib.hid (hS0.out.trans (Below.mono q2 hS0.out.size)); clear q2))
        clear xR2
        go_upto_region 18 with (go_at_call 9; (with_reducible refine (s2.out _).mono ?_); rintro e9 w4 ⟨ga, gc, rfl, q2⟩; replace hS0 := Lib.hid (hS0.out.trans (Below.mono q2 hS0.out.size)); clear q2)
        go_upto_region 19 with (first
          | (go_at_call 15; (with_reducible refine (u61.out _).mono ?_); rintro e9 w4 ⟨ra, rc, rfl, q1, q2⟩; (try replace k2 := Lib.hid ((q2.cell (p := (⟨gn, 2, none⟩ : Addr)) kg.out).trans k2.out)); (try replace kg := Lib.hid (Nat.lt_of_lt_of_le kg.out q2.size)); (try replace k6 := Lib.hid ((q2.cell (p := (⟨gm, 6, none⟩ : Addr)) kh.out).trans k6.out)); (try replace kh := Lib.hid (Nat.lt_of_lt_of_le kh.out q2.size)); replace hS0 := Lib.hid (hS0.out.trans (Below.mono q2 hS0.out.size)); have xR3 := Lib.hid q1.rd; clear q1; clear q2)
          | (go_at_call 9; (with_reducible refine (spl_h _ _ xR3.out).mono ?_); rintro e9 w4 ⟨ha, hc, rfl, q2⟩; replace hS0 := Lib.hid (hS0.out.trans (Below.mono q2 hS0.out.size)); clear q2))
        clear xR3 m2 m8
        go_upto_region 20 with (go_at_call 9; (with_reducible refine (spl_i _).mono ?_); rintro e9 w4 ⟨gn, nc2, xa, xc, rfl, q1, q3, q2⟩; replace hS0 := Lib.hid (hS0.out.trans (Below.mono q2 hS0.out.size)); have k2 := Lib.hid q1; have kg := Lib.hid q3; clear q1 q3; clear q2)
        go_upto_region 21 with (first
          | (go_at_call 15; (with_reducible refine (u60.out _).mono ?_); rintro e9 w4 ⟨ra, rc, rfl, q1, q2⟩; (try replace k2 := Lib.hid ((q2.cell (p := (⟨gn, 2, none⟩ : Addr)) kg.out).trans k2.out)); (try replace kg := Lib.hid (Nat.lt_of_lt_of_le kg.out q2.size)); (try replace k6 := Lib.hid ((q2.cell (p := (⟨gm, 6, none⟩ : Addr)) kh.out).trans k6.out)); (try replace kh := Lib.hid (Nat.lt_of_lt_of_le kh.out q2.size)); replace hS0 := Lib.hid (hS0.out.trans (Below.mono q2 hS0.out.size)); have xR4 := Lib.hid q1.rd; clear q1; clear q2)
          | (go_at_call 9; (with_reducible refine (spl_j _ _ xR4.out).mono ?_); rintro e9 w4 ⟨gm, mc2, ya, yc, rfl, q1, q3, q2⟩; (try replace k2 := Lib.hid ((q2.cell (p := (⟨gn, 2, none⟩ : Addr)) kg.out).trans k2.out)); (try replace kg := Lib.hid (Nat.lt_of_lt_of_le kg.out q2.size)); (try replace k6 := Lib.hid ((q2.cell (p := (⟨gm, 6, none⟩ : Addr)) kh.out).trans k6.out)); (try replace kh := Lib.hid (Nat.lt_of_lt_of_le kh.out q2.size)); replace hS0 := Lib.hid (hS0.out.trans (Below.mono q2 hS0.out.size)); have k6 := Lib.hid q1; have kh := Lib.hid q3; clear q1 q3; clear q2))
        clear xR4
        go_upto_region 22 with (first
          | (go_at_call 15; (with_reducible refine (u40.out _).mono ?_); rintro e9 w4 ⟨ra, rc, rfl, q1, q2⟩; (try replace k2 := Lib.hid ((q2.cell (p := (⟨gn, 2, none⟩ : Addr)) kg.out).trans k2.out)); (try replace kg := Lib.hid (Nat.lt_of_lt_of_le kg.out q2.size)); (try replace k6 := Lib.hid ((q2.cell (p := (⟨gm, 6, none⟩ : Addr)) kh.out).trans k6.out)); (try replace kh := Lib.hid (Nat.lt_of_lt_of_le kh.out q2.size)); replace hS0 := Lib.hid (hS0.out.trans (Below.mono q2 hS0.out.size)); have xR5 := Lib.hid q1.rd; clear q1; clear q2)
          | (go_at_call 9; (with_reducible refine (spl_k _ _ xR5.out).mono ?_); rintro e9 w4 ⟨wa, wc, rfl, q2⟩; (try replace k2 := Lib.hid ((q2.cell (p := (⟨gn, 2, none⟩ : Addr)) kg.out).trans k2.out)); (try replace kg := Lib.hid (Nat.lt_of_lt_of_le kg.out q2.size)); (try replace k6 := Lib.hid ((q2.cell (p := (⟨gm, 6, none⟩ : Addr)) kh.out).trans k6.out)); (try replace kh := Lib.hid (Nat.lt_of_lt_of_le kh.out q2.size)); replace hS0 := Lib.hid (hS0.out.trans (Below.mono q2 hS0.out.size)); clear q2))
        clear xR5
        go_upto_region 23 with (go_at_call 16; (first | (with_reducible refine (ref_nil _).mono ?_) | (with_reducible refine (ref_n0 _).mono ?_) | (with_reducible refine (ref_n1 _).mono ?_) | (with_reducible refine (ref_n2 _).mono ?_) | (with_reducible refine (ref_n3 _).mono ?_) | (with_reducible refine (ref_n4 _).mono ?_) | (with_reducible refine (ref_n5 _).mono ?_) | (with_reducible refine (ref_n6 _).mono ?_) | (with_reducible refine (ref_n7 _).mono ?_)); rintro e9 w4 ⟨rfl, q2⟩; (try replace k2 := Lib.hid ((q2.cell (p := (⟨gn, 2, none⟩ : Addr)) kg.out).trans k2.out)); (try replace kg := Lib.hid (Nat.lt_of_lt_of_le kg.out q2.size)); (try replace k6 := Lib.hid ((q2.cell (p := (⟨gm, 6, none⟩ : Addr)) kh.out).trans k6.out)); (try replace kh := Lib.hid (Nat.lt_of_lt_of_le kh.out q2.size)); replace hS0 := Lib.hid (hS0.out.trans (Below.mono q2 hS0.out.size)); clear q2)
        have c2 := k2.out
        have c6 := k6.out
        go_upto_region 24 with fail
        clear c2 c6 k2 k6 kg kh
        go_wp2_with (first
          | (go_at_call 17; (with_reducible refine (is_bye _).mono ?_); rintro e9 w4 ⟨rfl, q2⟩; replace hS0 := Lib.hid (hS0.out.trans (Below.mono q2 hS0.out.size)); clear q2)
          | (go_at_call 18; (with_reducible refine (alive7 _).mono ?_); rintro e9 w4 ⟨rfl, q2⟩; replace hS0 := Lib.hid (hS0.out.trans (Below.mono q2 hS0.out.size)); clear q2))
        go_ret
        exact ⟨rfl, hS0.out⟩
end Go.Proofs.Ytfaojjleapenaab

/- Texts that the row stands on, part 7. -/
import Derived.Test.YtfaojjleapenaabGreatDoorRTopSq06
namespace Go.Proofs.YtfaojjleapenaabGreatDoor.wir.val
open Go.RowKit Go.YtfaojjleapenaabGreatDoor
set_option linter.unusedVariables false
def decPost (w : World) (l : List Int) (e : Ending) (w' : World) : Prop :=
  Below w.heap.size w w' ∧ ((decO l = none ∧ e = .returned (.tuple #[.agg (zO.c (.slice none 0 0)), .int .i64 12])) ∨
    ∃ (o : Od) (a : Option Addr) (c : Nat), decO l = some o ∧ e = .returned (.tuple #[.agg (o.c (.slice a o.n c)), .int .i64 0]) ∧ HeldI w.heap.size w' (.slice a o.n c) o.n o.F)
theorem decPost_eq {w w' : World} {l : List Int} {e e' : Ending} (h : decPost w l e w') (he : e' = e) : decPost w l e' w' := he ▸ h
theorem dec_no {l : List Int} (h : rOp l = none) : decO l = none := by unfold decO; rw [h]
theorem dec_rest {l m : List Int} {o : Od} (h : rOp l = some (o, m)) (hm : ¬ m.length = 0) : decO l = none := by unfold decO; rw [h]; simp only; rw [if_neg (fun x => hm x.1)]
theorem dec_chk {l m : List Int} {o : Od} (h : rOp l = some (o, m)) (hm : ¬ chkO o = 0) : decO l = none := by unfold decO; rw [h]; simp only; rw [if_neg (fun x => hm x.2)]
theorem dec_yes {l m : List Int} {o : Od} (h : rOp l = some (o, m)) (hm : m.length = 0) (hc : chkO o = 0) : decO l = some o := by unfold decO; rw [h]; simp only; rw [if_pos ⟨hm, hc⟩]
set_option maxHeartbeats 4000000 in
set_option maxRecDepth 100000 in
theorem opDecode_any (l : List Int) (bv : Value) (w : World) (hr : RdB w bv l) (hl : Bytes l) (hlm : l.length ≤ 1000000) :
    Calls Tryz.prog 16 #[bv] w (decPost w l) := by
  obtain ⟨ba, bc, rfl⟩ := hr.slice
  obtain ⟨W, hW⟩ : ∃ W, W = w.alloc (.cells (zO.c (.slice none 0 0)) 41) := ⟨_, rfl⟩
  have hB0 : Below w.heap.size w W := by rw [hW]; exact below_a w _
  have hrz : W.heap[w.heap.size]? = some (.cells (zO.c (.slice none 0 0)) 41 (0, 0)) := by rw [hW]; exact heap_alloc_new w _
  have hWs : W.heap.size = w.heap.size + 1 := by rw [hW]; simp
  have hb1 := below_a W (.cells #[.slice ba l.length bc, .bool false] 73)
  have hS : St w W.heap.size (W.alloc (.cells #[.slice ba l.length bc, .bool false] 73)) l false :=
    ⟨hB0.trans (hb1.mono hB0.size), hB0.size, ba, bc, hr, heap_alloc_new W _⟩
  have hO := Lib.hid (operation_rd hS hl hlm)
  have hrow1 := Lib.hid (rowB hrz hb1 (by omega))
  have hB1 := Lib.hid (hB0.trans (hb1.mono hB0.size))
  have hgs := Lib.hid (show w.heap.size < (W.alloc (.cells #[.slice ba l.length bc, .bool false] 73)).heap.size by simp; omega)
  have hgr := Lib.hid (show w.heap.size < W.heap.size by omega)
  clear hS hr hrz hB0 hb1 hl hlm
  go_enter Tryz.func16, Tryz.ntmps16
  go_upto_region 1 with fail
  change Code.wp _ _ _ _ (w.alloc (.cells (zO.c (.slice none 0 0)) 41))
  rw [← hW]
  clear hW hWs
  go_upto_region 2 with fail
  generalize W.alloc (.cells #[.slice ba l.length bc, .bool false] 73) = W1 at *
  generalize W.heap.size = g2 at *
  go_upto_region 3 with (go_at_call 36; (with_reducible refine (hO.out).mono ?_); rintro e w1 ⟨o, pa, pc, rfl, fo, hn4, hI, l', f', q1, q2, q3, q4, q5⟩; have fo := Lib.hid fo; have hn4 := Lib.hid hn4; have hI := Lib.hid hI; have q1 := Lib.hid q1; have q2 := Lib.hid q2; have q5 := Lib.hid q5)
  have hbz := below_a w1 (.cells (o.c (.slice pa o.n pc)) 41)
  have hl2 := Lib.hid (heap_alloc_new w1 (.cells (o.c (.slice pa o.n pc)) 41))
  have hI2 := Lib.hid (heldI_mono hI.out hbz)
  have hp2 := Lib.hid (hI2.out _ (fun _ _ _ => rfl) (Nat.le_refl _))
  obtain ⟨_, _, a', c', hrr, hrw⟩ := q1.out.kept hbz
  have hrw2 := Lib.hid hrw
  have hrow2 := Lib.hid (rowB (butRow q2.out hrow1.out (by have := hgr.out; omega)) hbz (Nat.lt_of_lt_of_le hgs.out q2.out.size))
  have hB2 := Lib.hid (show Below w.heap.size w (w1.alloc (.cells (o.c (.slice pa o.n pc)) 41)) from (hB1.out.grown q2.out (Nat.le_of_lt hgs.out) (fun k e => by have := Option.some.inj e; have := hgr.out; omega)).trans (hbz.mono (Nat.le_of_lt (Nat.lt_of_lt_of_le hgs.out q2.out.size))))
  clear hbz hrow1 hB1 q1 q2 hI hO hrr hrw
  change Code.wp _ _ _ _ (w1.alloc (.cells (o.c (.slice pa o.n pc)) 41))
  generalize w1.heap.size = g3 at *
  generalize w1.alloc (.cells (o.c (.slice pa o.n pc)) 41) = w2 at *
  have u0 : w2.cell? ⟨g2, 0, none⟩ = some (.slice a' l'.length c') := cell_of_row _ _ _ _ _ _ hrw2.out
  have u1 : w2.cell? ⟨g2, 1, none⟩ = some (.bool f') := cell_of_row _ _ _ _ _ _ hrw2.out
  have hC := Lib.hid (opCheck_any o fo.out (.slice pa o.n pc) w2 hp2.out)
  have hno : decO l = none → ∀ w9, Below w.heap.size w2 w9 → decPost w l (.returned (.tuple #[.agg (zO.c (.slice none 0 0)), .int .i64 12])) w9 := fun hd w9 hb9 => ⟨hB2.out.trans hb9, .inl ⟨hd, rfl⟩⟩
  have hno := Lib.hid hno
  cases f' with
  | true =>
    have hd : decO l = none := by
      rcases q5.out with ⟨_, h⟩ | ⟨h, _⟩
      · exact dec_no h
      · cases h
    have hno := Lib.hid (hno.out hd)
    clear hd q5 hC hp2 hI2 hl2
    go_wp2_with (refine storeOver _ w.heap.size _ rfl 41 _ _ rfl (zO.c (.slice none 0 0)) 41 hrow2.out rfl rfl info_op rfl (op_one zO _ _ _) ?_; intro w9 hr9 hb9; have hr9' := Lib.hid hr9; have hb9' := Lib.hid hb9; clear hr9 hb9)
    exact bodyPost_ret (results_row_tmp rfl _ _ w.heap.size 41 _ _ _ rfl hr9'.out Tryz.underlying41 rfl info_op) rfl (decPost_eq (hno.out _ hb9'.out) rfl)
  | false =>
    have hr : rOp l = some (o, l') := by
      rcases q5.out with ⟨h, _⟩ | ⟨_, h⟩
      · cases h
      · exact h
    by_cases hN : l'.length = 0
    · have i1 : decide ((0 : Int) < (l'.length : Int)) = false := decide_eq_false (by omega)
      have i2 : ¬ (0 : Int) < (l'.length : Int) := by omega
      have hd1 := Lib.hid (fun h => dec_chk hr h)
      have hd2 := Lib.hid (fun h => dec_yes hr hN h)
      have hNh := Lib.hid hN
      clear hr q5
      generalize l'.length = N at *
      by_cases h0 : chkO o = 0
      · have hyes := Lib.hid (fun (w9 : World) (hb9 : Below w.heap.size w2 w9) (h9 : HeldI w.heap.size w9 (.slice pa o.n pc) o.n o.F) => (show decPost w l (.returned (.tuple #[.agg (o.c (.slice pa o.n pc)), .int .i64 0])) w9 from ⟨hB2.out.trans hb9, .inr ⟨o, pa, pc, hd2.out h0, rfl, h9⟩⟩))
        rw [h0] at hC
        clear hd1 hd2 h0 hno
        have hN0 : N = 0 := hNh.out
        subst hN0
        go_wp2_with (first
          | (refine wpList_load_row_g rfl 41 _ rfl g3 rfl 41 (o.c (.slice pa o.n pc)) (0, 0) _ hl2.out Tryz.underlying41 rfl info_op ?_)
          | (go_at_call 21; (with_reducible refine (hC.out).mono ?_); rintro e w3 ⟨rfl, h3⟩; have hb3 := Lib.hid h3; have hl3 := Lib.hid (rowB hl2.out h3 (Array.getElem?_eq_some_iff.1 hl2.out).1); have hrow3 := Lib.hid (rowB hrow2.out h3 (Array.getElem?_eq_some_iff.1 hrow2.out).1); clear h3)
          | (refine wpList_load_row_g rfl 41 _ rfl g3 rfl 41 (o.c (.slice pa o.n pc)) (0, 0) _ hl3.out Tryz.underlying41 rfl info_op ?_)
          | (refine wpList_store_row rfl 41 _ _ rfl w.heap.size (o.c (.slice pa o.n pc)) rfl rfl 41 _ hrow3.out info_op rfl (op_one o pa o.n pc) ?_; have hr9 := Lib.hid (setRow_heap _ _ _ (o.c (.slice pa o.n pc)) _ _ hrow3.out); have hb9 := Lib.hid (below_setRow' (B := w.heap.size) (g := w.heap.size) (Below.refl _ w3) (Nat.le_refl _) (o.c (.slice pa o.n pc)))))
        exact bodyPost_ret (results_row_tmp rfl _ _ w.heap.size 41 _ _ _ rfl hr9.out Tryz.underlying41 rfl info_op) rfl (decPost_eq (hyes.out _ ((hb3.out.mono hB2.out.size).trans hb9.out) (heldI_lower (heldI_setRow (heldI_mono hI2.out hb3.out) hgs.out _) (Nat.le_of_lt hgs.out))) rfl)
      · have hx : (chkO o != 0) = true := by simpa using h0
        have hno := Lib.hid (hno.out (hd1.out h0))
        generalize chkO o = E at *
        clear hd1 hd2 h0
        have hN0 : N = 0 := hNh.out
        subst hN0
        go_wp2_with (first
          | (refine wpList_load_row_g rfl 41 _ rfl g3 rfl 41 (o.c (.slice pa o.n pc)) (0, 0) _ hl2.out Tryz.underlying41 rfl info_op ?_)
          | (go_at_call 21; (with_reducible refine (hC.out).mono ?_); rintro e w3 ⟨rfl, h3⟩; have hb3 := Lib.hid h3; have hrow3 := Lib.hid (rowB hrow2.out h3 (Array.getElem?_eq_some_iff.1 hrow2.out).1); clear h3)
          | (refine storeOver _ w.heap.size _ rfl 41 _ _ rfl (zO.c (.slice none 0 0)) 41 hrow3.out rfl rfl info_op rfl (op_one zO _ _ _) ?_; intro w9 hr9 hb9; have hr9' := Lib.hid hr9; have hb9' := Lib.hid hb9; clear hr9 hb9))
        exact bodyPost_ret (results_row_tmp rfl _ _ w.heap.size 41 _ _ _ rfl hr9'.out Tryz.underlying41 rfl info_op) rfl (decPost_eq (hno.out _ ((hb3.out.mono hB2.out.size).trans hb9'.out)) rfl)
    · have hno := Lib.hid (hno.out (dec_rest hr hN))
      clear hr q5 hC hp2 hI2 hl2
      generalize l'.length = N at *
      have i1 : decide ((0 : Int) < (N : Int)) = true := decide_eq_true (by omega)
      have i2 : (0 : Int) < (N : Int) := by omega
      go_wp2_with (refine storeOver _ w.heap.size _ rfl 41 _ _ rfl (zO.c (.slice none 0 0)) 41 hrow2.out rfl rfl info_op rfl (op_one zO _ _ _) ?_; intro w9 hr9 hb9; have hr9' := Lib.hid hr9; have hb9' := Lib.hid hb9; clear hr9 hb9)
      exact bodyPost_ret (results_row_tmp rfl _ _ w.heap.size 41 _ _ _ rfl hr9'.out Tryz.underlying41 rfl info_op) rfl (decPost_eq (hno.out _ hb9'.out) rfl)
end Go.Proofs.YtfaojjleapenaabGreatDoor.wir.val
namespace Go.Proofs.YtfaojjleapenaabGreatDoor.wir.val
open Go.RowKit Go.YtfaojjleapenaabGreatDoor
set_option linter.unusedVariables false
theorem setRow_same {w : World} {g : Nat} {cs : Array Value} {t : TypeId} {fr : Nat × Nat} (h : w.heap[g]? = some (.cells cs t fr)) : w.setRow g cs = w := by
  have e : (w.setRow g cs).heap = w.heap := by
    apply Array.ext_getElem?
    intro i
    by_cases hi : i = g
    · subst hi; rw [setRow_heap _ _ _ cs _ _ h, h]
    · exact setRow_other w g i cs hi
  unfold World.setRow at e ⊢
  simp only at e
  rw [e]
/-- A store of what lies there already. -/
theorem qa_store_same {P : Program} {C : World → Prop} {o : Oper} {a : Act} (ty : TypeId) (x y : Operand) (ho : o.op = .store ty x y) (g : Nat) (cs : Array Value) (hx : a.eval x = .pointer (some ⟨g, 0, none⟩)) (hy : a.eval y = .agg cs) (t : TypeId)
    (hC : ∀ w, C w → w.heap[g]? = some (.cells cs t (0, 0))) (hi : (P.info? ty).map (·.size) = some cs.size) (h1 : cs.all (·.oneCell') = true) : ∀ w, C w → o.quietAt P a C w undef := by
  intro w hw
  unfold Oper.quietAt execOp
  simp only [ho, hx, hy, Instr.storeAt, Instr.sureAddr, Sem.run_bind, Sem.run_pure, Result.andThen_ok, run_storeVar_row w g t ty cs cs (hC w hw) hi rfl h1, setRow_same (hC w hw)]
  exact ⟨rfl, rfl⟩
theorem results_row_row_tmp {P : Program} {fn : Func} {p q u : Tmp} {ty ty2 : TypeId} (h : fn.results = #[.cell p ty, .cell q ty2, .tmp u]) (tmps : Array Value) (w : World) (g : Nat) (t : TypeId) (cs : Array Value) (fr : Nat × Nat) (d : TypeDesc)
    (g2 : Nat) (t2 : TypeId) (cs2 : Array Value) (fr2 : Nat × Nat) (d2 : TypeDesc)
    (hp : tmps.getD p undef = .pointer (some ⟨g, 0, none⟩)) (hg : w.heap[g]? = some (.cells cs t fr))
    (hu : P.underlying ty = some d) (hd : (match d with | .struct _ | .array _ _ => true | _ => false) = true) (hi : (P.info? ty).map (·.size) = some cs.size)
    (hp2 : tmps.getD q undef = .pointer (some ⟨g2, 0, none⟩)) (hg2 : w.heap[g2]? = some (.cells cs2 t2 fr2))
    (hu2 : P.underlying ty2 = some d2) (hd2 : (match d2 with | .struct _ | .array _ _ => true | _ => false) = true) (hi2 : (P.info? ty2).map (·.size) = some cs2.size) :
    (results fn tmps).run P w = .ok (.tuple #[.agg cs, .agg cs2, tmps.getD u undef]) w := by
  have hc : (results fn tmps).run P w =
      ((asAddr (tmps.getD p undef)).run P w).andThen fun a w₁ => ((loadVar ty a).run P w₁).andThen fun x w₂ => ((asAddr (tmps.getD q undef)).run P w₂).andThen fun b w₃ => ((loadVar ty2 b).run P w₃).andThen fun y w₄ => .ok (.tuple #[x, y, tmps.getD u undef]) w₄ := by
    simp only [results, h]
    simp [Sem.run_bind, Result.andThen]
  rw [hc, hp, hp2]
  have hl := run_loadVar_row (P := P) w g t ty cs fr d hg hu hd hi
  have hl2 := run_loadVar_row (P := P) w g2 t2 ty2 cs2 fr2 d2 hg2 hu2 hd2 hi2
  simp [asAddr, hl, hl2]
/-- The verdict on bytes. -/
def vd (l : List Int) : Int := if 400 < l.length then 3 else match decO l with
  | none => 2
  | some o => if verO o = 0 then 0 else 4
def ofPost (w : World) (l : List Int) (e : Ending) (w' : World) : Prop :=
  Below w.heap.size w w' ∧ ((vd l ≠ 0 ∧ e = .returned (.tuple #[.agg (zO.c (.slice none 0 0)), .agg (u8s (zerosB 32)), .int .u8 (vd l)])) ∨
    ∃ (o : Od) (a : Option Addr) (c : Nat), vd l = 0 ∧ l.length ≤ 400 ∧ decO l = some o ∧ verO o = 0 ∧ e = .returned (.tuple #[.agg (o.c (.slice a o.n c)), .agg (u8s (shaF l)), .int .u8 0]) ∧ HeldI w.heap.size w' (.slice a o.n c) o.n o.F)
theorem ofPost_eq {w w' : World} {l : List Int} {e e' : Ending} (h : ofPost w l e w') (he : e' = e) : ofPost w l e' w' := he ▸ h
theorem zid_info : (Tryz.prog.info? 43).map (·.size) = some (u8s (zerosB 32)).size := by rw [u8s_size, zerosB_length]; kernel_rfl
set_option maxHeartbeats 4000000 in
set_option maxRecDepth 100000 in
theorem judgeOf_any (l : List Int) (bv : Value) (w : World) (hr : RdB w bv l) (hl : Bytes l) (hG0 : GlobW w) :
    Calls Tryz.prog 9 #[bv] w (ofPost w l) := by
  obtain ⟨ba, bc, rfl⟩ := hr.slice
  obtain ⟨N, hN⟩ : ∃ N, l.length = N := ⟨_, rfl⟩
  rw [hN] at hr ⊢
  obtain ⟨W, hW⟩ : ∃ W, W = (w.alloc (.cells (zO.c (.slice none 0 0)) 41)).alloc (.cells (u8s (zerosB 32)) 43) := ⟨_, rfl⟩
  have hr0 : W.heap[w.heap.size]? = some (.cells (zO.c (.slice none 0 0)) 41 (0, 0)) := by rw [hW]; exact rowB (heap_alloc_new w _) (below_a _ _) (by simp)
  have hr1 : W.heap[w.heap.size + 1]? = some (.cells (u8s (zerosB 32)) 43 (0, 0)) := by rw [hW]; exact hn2 w _ _
  have hb0 : Below w.heap.size w W := by rw [hW]; exact ((Below.refl w.heap.size w).alloc (Nat.le_refl _) _).alloc (by simp) _
  have hsz : W.heap.size = w.heap.size + 2 := by rw [hW]; simp
  have hS := Lib.hid hb0
  have r0 := Lib.hid hr0
  have r1 := Lib.hid hr1
  have bw := Lib.hid hr
  have hG := Lib.hid hG0
  have zi := Lib.hid zid_info
  have hlt := Lib.hid (show w.heap.size + 2 ≤ W.heap.size by omega)
  clear hr0 hr1 hb0 hr hG0 hsz
  have hno : ∀ (v : Int), vd l = v → v ≠ 0 → ∀ w9, Below w.heap.size w w9 → ofPost w l (.returned (.tuple #[.agg (zO.c (.slice none 0 0)), .agg (u8s (zerosB 32)), .int .u8 v])) w9 := fun v hv h0 w9 h9 => ⟨h9, .inl ⟨by rw [hv]; exact h0, by rw [hv]⟩⟩
  by_cases hbig : 400 < N
  · have i1 : (400 : Int) < (N : Int) := by omega
    have hno := Lib.hid (hno 3 (by unfold vd; rw [if_pos (by rw [hN]; exact hbig)]) (by decide))
    clear hl hN
    go_enter Tryz.func9, Tryz.ntmps9
    go_upto_region 1 with fail
    change Code.wp _ _ _ _ ((w.alloc (.cells (zO.c (.slice none 0 0)) 41)).alloc (.cells (u8s (zerosB 32)) 43))
    rw [← hW]
    clear hW
    go_wp2_with (first
      | (refine wpList_store_row rfl 41 _ _ rfl w.heap.size (zO.c (.slice none 0 0)) rfl rfl 41 _ r0.out info_op rfl (op_one zO _ _ _) ?_; rw [setRow_same r0.out])
      | (refine wpList_store_row rfl 43 _ _ rfl (w.heap.size + 1) (u8s (zerosB 32)) rfl (by kernel_rfl) 43 _ r1.out zi.out rfl (u8s_one _) ?_; rw [setRow_same r1.out]))
    exact bodyPost_ret (results_row_row_tmp rfl _ _ w.heap.size 41 _ _ _ (w.heap.size + 1) 43 _ _ _ rfl r0.out Tryz.underlying41 rfl info_op rfl r1.out Tryz.underlying43 rfl zi.out) rfl (ofPost_eq (hno.out _ hS.out) rfl)
  have i1 : ¬ (400 : Int) < (N : Int) := by omega
  have hN4 : ¬ 400 < l.length := by rw [hN]; exact hbig
  cases hd : decO l with
  | none =>
    have hno := Lib.hid (hno 2 (by unfold vd; rw [if_neg hN4, hd]) (by decide))
    have hD := Lib.hid (fun (wz : World) (h : RdB wz (.slice ba N bc) l) => (opDecode_any l _ wz h hl (by omega)).mono (R' := fun e w' => e = .returned (.tuple #[.agg (zO.c (.slice none 0 0)), .int .i64 12]) ∧ Below wz.heap.size wz w') (by
      rintro e w' ⟨hb, hq⟩
      rw [hd] at hq
      rcases hq with ⟨_, he⟩ | ⟨p, a, c, hq, _⟩
      · exact ⟨he, hb⟩
      · cases hq))
    clear hl hN hN4 hd
    go_enter Tryz.func9, Tryz.ntmps9
    go_upto_region 1 with fail
    change Code.wp _ _ _ _ ((w.alloc (.cells (zO.c (.slice none 0 0)) 41)).alloc (.cells (u8s (zerosB 32)) 43))
    rw [← hW]
    clear hW
    go_wp2_with (first
      | (go_at_call 16; (with_reducible refine (hD.out _ (bw.out.mono hS.out)).mono ?_); rintro e w4 ⟨rfl, q2⟩; replace r0 := Lib.hid (rowB r0.out q2 (Array.getElem?_eq_some_iff.1 r0.out).1); replace r1 := Lib.hid (rowB r1.out q2 (Array.getElem?_eq_some_iff.1 r1.out).1); replace hS := Lib.hid (hS.out.trans (Below.mono q2 hS.out.size)); clear q2)
      | (refine wpList_store_row rfl 41 _ _ rfl w.heap.size (zO.c (.slice none 0 0)) rfl rfl 41 _ r0.out info_op rfl (op_one zO _ _ _) ?_; rw [setRow_same r0.out])
      | (refine wpList_store_row rfl 43 _ _ rfl (w.heap.size + 1) (u8s (zerosB 32)) rfl (by kernel_rfl) 43 _ r1.out zi.out rfl (u8s_one _) ?_; rw [setRow_same r1.out]))
    exact bodyPost_ret (results_row_row_tmp rfl _ _ w.heap.size 41 _ _ _ (w.heap.size + 1) 43 _ _ _ rfl r0.out Tryz.underlying41 rfl info_op rfl r1.out Tryz.underlying43 rfl zi.out) rfl (ofPost_eq (hno.out _ hS.out) rfl)
  | some o =>
    obtain ⟨e1, fo, c0, hF⟩ := decO_back hl hd
    have hD := Lib.hid (fun (wz : World) (h : RdB wz (.slice ba N bc) l) => (opDecode_any l _ wz h hl (by omega)).mono (R' := fun e w' => ∃ (a : Option Addr) (c : Nat), e = .returned (.tuple #[.agg (o.c (.slice a o.n c)), .int .i64 0]) ∧ HeldI wz.heap.size w' (.slice a o.n c) o.n o.F ∧ Below wz.heap.size wz w') (by
      rintro e w' ⟨hb, hq⟩
      rw [hd] at hq
      rcases hq with ⟨hq, _⟩ | ⟨p, a, c, hq, he, hi⟩
      · cases hq
      · obtain rfl := Option.some.inj hq
        exact ⟨a, c, he, hi, hb⟩))
    have hV := Lib.hid (fun (wz : World) (v : Value) (h : RdI wz v o.n o.F) (hg : GlobW wz) => opVerify_any o fo v wz h hg)
    have hI := Lib.hid (fun (wz : World) (v : Value) (h : RdI wz v o.n o.F) (hg : GlobW wz) => (show Calls Tryz.prog 19 #[.agg (o.c v)] wz fun e w' => e = .returned (.tuple #[.agg (u8s (shaF l)), .int .i64 0]) ∧ Below wz.heap.size wz w' from by
      obtain ⟨Tg, Tf, g1, g2⟩ := hg
      rw [← e1]
      exact opID_ok o fo v wz h c0 g1 g2))
    have hyes := fun (h0 : verO o = 0) (a : Option Addr) (c : Nat) (w9 : World) (h9 : Below w.heap.size w w9) (hh : HeldI w.heap.size w9 (.slice a o.n c) o.n o.F) => (show ofPost w l (.returned (.tuple #[.agg (o.c (.slice a o.n c)), .agg (u8s (shaF l)), .int .u8 0])) w9 from
      ⟨h9, .inr ⟨o, a, c, by unfold vd; rw [if_neg hN4, hd]; simp only; rw [if_pos h0], by omega, hd, h0, rfl, hh⟩⟩)
    have hno4 := fun (h0 : ¬ verO o = 0) => hno 4 (by unfold vd; rw [if_neg hN4, hd]; simp only; rw [if_neg h0]) (by decide)
    have hDl : (shaF l).length = 32 := shaF_length _
    have di := Lib.hid (show (Tryz.prog.info? 43).map (·.size) = some (u8s (shaF l)).size by rw [u8s_size, hDl]; kernel_rfl)
    have ds := Lib.hid (show (u8s (zerosB 32)).size = (u8s (shaF l)).size by rw [u8s_size, u8s_size, hDl, zerosB_length])
    clear hno hl hN hN4 hd e1 fo c0 hF hDl
    generalize shaF l = D at *
    generalize verO o = VE at *
    by_cases h0 : VE = 0
    · have hY := Lib.hid (hyes h0)
      clear hno4 hyes
      subst h0
      go_enter Tryz.func9, Tryz.ntmps9
      go_upto_region 1 with fail
      change Code.wp _ _ _ _ ((w.alloc (.cells (zO.c (.slice none 0 0)) 41)).alloc (.cells (u8s (zerosB 32)) 43))
      rw [← hW]
      clear hW
      go_upto_region 4 with (first
        | (go_at_call 16; (with_reducible refine (hD.out _ (bw.out.mono hS.out)).mono ?_); rintro e w4 ⟨pa, pc, rfl, q1, q2⟩; have hH := Lib.hid (heldI_lower q1 (Nat.le_of_lt (by have := hlt.out; omega : w.heap.size < W.heap.size))); have hH2 := Lib.hid q1; replace r0 := Lib.hid (rowB r0.out q2 (Array.getElem?_eq_some_iff.1 r0.out).1); replace r1 := Lib.hid (rowB r1.out q2 (Array.getElem?_eq_some_iff.1 r1.out).1); replace hS := Lib.hid (hS.out.trans (Below.mono q2 hS.out.size)); clear q1 q2)
        | (refine wpList_store_row rfl 41 _ _ rfl w.heap.size (o.c (.slice pa o.n pc)) rfl rfl 41 _ r0.out info_op rfl (op_one o pa o.n pc) ?_))
      have k0 := Lib.hid (setRow_heap _ _ _ (o.c (.slice pa o.n pc)) _ _ r0.out)
      have k1 := Lib.hid ((setRow_other w4 w.heap.size (w.heap.size + 1) (o.c (.slice pa o.n pc)) (by omega)).trans r1.out)
      have kS := Lib.hid (below_setRow' (g := w.heap.size) hS.out (Nat.le_refl _) (o.c (.slice pa o.n pc)))
      have kH := Lib.hid (heldI_setRow (k := w.heap.size) hH2.out (by have := hlt.out; omega) (o.c (.slice pa o.n pc)))
      clear r0 r1 hS hH hH2
      generalize w4.setRow w.heap.size (o.c (.slice pa o.n pc)) = w5 at *
      have xP := Lib.hid (show RdI w5 (.slice pa o.n pc) o.n o.F from kH.out w5 (fun _ _ _ => rfl) (Nat.le_refl _))
      go_upto_region 9 with (first
        | (refine wpList_load_row_g rfl 41 _ rfl w.heap.size rfl 41 (o.c (.slice pa o.n pc)) (0, 0) _ k0.out Tryz.underlying41 rfl info_op ?_)
        | (go_at_call 22; (with_reducible refine (hV.out _ _ xP.out (hG.out.mono kS.out)).mono ?_); rintro e w6 ⟨rfl, q2⟩; replace k0 := Lib.hid (rowB k0.out q2 (Array.getElem?_eq_some_iff.1 k0.out).1); replace k1 := Lib.hid (rowB k1.out q2 (Array.getElem?_eq_some_iff.1 k1.out).1); replace kS := Lib.hid (kS.out.trans (Below.mono q2 kS.out.size)); replace kH := Lib.hid (heldI_mono kH.out q2); replace xP := Lib.hid (xP.out.mono q2); clear q2)
        | (go_at_call 19; (with_reducible refine (hI.out _ _ xP.out (hG.out.mono kS.out)).mono ?_); rintro e w7 ⟨rfl, q2⟩; replace k0 := Lib.hid (rowB k0.out q2 (Array.getElem?_eq_some_iff.1 k0.out).1); replace k1 := Lib.hid (rowB k1.out q2 (Array.getElem?_eq_some_iff.1 k1.out).1); replace kS := Lib.hid (kS.out.trans (Below.mono q2 kS.out.size)); replace kH := Lib.hid (heldI_mono kH.out q2); replace xP := Lib.hid (xP.out.mono q2); clear q2)
        | (refine wpList_store_row rfl 43 _ _ rfl (w.heap.size + 1) (u8s D) rfl rfl 43 _ k1.out di.out ds.out (u8s_one _) ?_))
      have z1 := Lib.hid (setRow_heap _ _ _ (u8s D) _ _ k1.out)
      have z0 := Lib.hid ((setRow_other w7 (w.heap.size + 1) w.heap.size (u8s D) (by omega)).trans k0.out)
      have zS := Lib.hid (below_setRow' (g := w.heap.size + 1) kS.out (Nat.le_succ _) (u8s D))
      have zH := Lib.hid (heldI_setRow (k := w.heap.size + 1) kH.out (by have := hlt.out; omega) (u8s D))
      clear k0 k1 kS kH xP
      generalize w7.setRow (w.heap.size + 1) (u8s D) = w8 at *
      have lt0 := Lib.hid (Array.getElem?_eq_some_iff.1 z0.out).1
      have lt1 := Lib.hid (Array.getElem?_eq_some_iff.1 z1.out).1
      have y0 := Lib.hid (fun (w' : World) (h : Below w8.heap.size w8 w') => rowB z0.out h lt0.out)
      have y1 := Lib.hid (fun (w' : World) (h : Below w8.heap.size w8 w') => rowB z1.out h lt1.out)
      refine wp_region_quiet (C := fun w' => Below w8.heap.size w8 w') (by kernel_rfl) (by kernel_rfl) ((Below.refl _ _).drew) ?_
      simp only []
      refine wpq (.agg (o.c (.slice pa o.n pc))) rfl (quiet_row 41 _ rfl w.heap.size rfl 41 (o.c (.slice pa o.n pc)) (0, 0) _ y0.out Tryz.underlying41 rfl info_op) rfl (fun K hK => ?_); go_simp; refine hK _ ?_; clear hK K
      refine wpq (.agg (u8s D)) rfl (quiet_row 43 _ rfl (w.heap.size + 1) rfl 43 (u8s D) (0, 0) _ y1.out Tryz.underlying43 rfl di.out) rfl (fun K hK => ?_); go_simp; refine hK _ ?_; clear hK K
      refine wpq undef rfl (qa_store_same 41 _ _ rfl w.heap.size (o.c (.slice pa o.n pc)) rfl rfl 41 y0.out info_op (op_one o pa o.n pc)) rfl (fun K hK => ?_); go_simp; refine hK _ ?_; clear hK K
      refine wpq undef rfl (qa_store_same 43 _ _ rfl (w.heap.size + 1) (u8s D) rfl rfl 43 y1.out di.out (u8s_one _)) rfl (fun K hK => ?_); go_simp; refine hK _ ?_; clear hK K
      (go_big_quiet_want; go_big_quiet_op; first | go_big_quiet_on | (refine ⟨_, fun _ _ => rfl, ?_⟩; go_big_quiet_on))
      refine wpQuiet_nil ?_
      intro w9 h9
      have x0 := Lib.hid (y0.out w9 h9)
      have x1 := Lib.hid (y1.out w9 h9)
      have hfin := Lib.hid (hY.out pa pc w9 (zS.out.trans (h9.mono zS.out.size)) (heldI_lower (heldI_mono zH.out h9) (by have := hlt.out; omega)))
      clear h9
      go_wp2
      exact bodyPost_ret (results_row_row_tmp rfl _ _ w.heap.size 41 _ _ _ (w.heap.size + 1) 43 _ _ _ rfl x0.out Tryz.underlying41 rfl info_op rfl x1.out Tryz.underlying43 rfl di.out) rfl (ofPost_eq hfin.out rfl)
    · have hno := Lib.hid (hno4 h0)
      have hVb : (VE != 0) = true := by simpa using h0
      clear hno4 hyes h0
      go_enter Tryz.func9, Tryz.ntmps9
      go_upto_region 1 with fail
      change Code.wp _ _ _ _ ((w.alloc (.cells (zO.c (.slice none 0 0)) 41)).alloc (.cells (u8s (zerosB 32)) 43))
      rw [← hW]
      clear hW
      go_upto_region 4 with (first
        | (go_at_call 16; (with_reducible refine (hD.out _ (bw.out.mono hS.out)).mono ?_); rintro e w4 ⟨pa, pc, rfl, q1, q2⟩; have hH2 := Lib.hid q1; replace r0 := Lib.hid (rowB r0.out q2 (Array.getElem?_eq_some_iff.1 r0.out).1); replace r1 := Lib.hid (rowB r1.out q2 (Array.getElem?_eq_some_iff.1 r1.out).1); replace hS := Lib.hid (hS.out.trans (Below.mono q2 hS.out.size)); clear q1 q2)
        | (refine wpList_store_row rfl 41 _ _ rfl w.heap.size (o.c (.slice pa o.n pc)) rfl rfl 41 _ r0.out info_op rfl (op_one o pa o.n pc) ?_))
      have k0 := Lib.hid (setRow_heap _ _ _ (o.c (.slice pa o.n pc)) _ _ r0.out)
      have k1 := Lib.hid ((setRow_other w4 w.heap.size (w.heap.size + 1) (o.c (.slice pa o.n pc)) (by omega)).trans r1.out)
      have kS := Lib.hid (below_setRow' (g := w.heap.size) hS.out (Nat.le_refl _) (o.c (.slice pa o.n pc)))
      have kH := Lib.hid (heldI_setRow (k := w.heap.size) hH2.out (by have := hlt.out; omega) (o.c (.slice pa o.n pc)))
      clear r0 r1 hS hH2
      generalize w4.setRow w.heap.size (o.c (.slice pa o.n pc)) = w5 at *
      have xP := Lib.hid (show RdI w5 (.slice pa o.n pc) o.n o.F from kH.out w5 (fun _ _ _ => rfl) (Nat.le_refl _))
      clear kH
      go_upto_region 7 with (first
        | (refine wpList_load_row_g rfl 41 _ rfl w.heap.size rfl 41 (o.c (.slice pa o.n pc)) (0, 0) _ k0.out Tryz.underlying41 rfl info_op ?_)
        | (go_at_call 22; (with_reducible refine (hV.out _ _ xP.out (hG.out.mono kS.out)).mono ?_); rintro e w6 ⟨rfl, q2⟩; replace k0 := Lib.hid (rowB k0.out q2 (Array.getElem?_eq_some_iff.1 k0.out).1); replace k1 := Lib.hid (rowB k1.out q2 (Array.getElem?_eq_some_iff.1 k1.out).1); replace kS := Lib.hid (kS.out.trans (Below.mono q2 kS.out.size)); clear q2))
      have z0 := Lib.hid (setRow_heap _ _ _ (zO.c (.slice none 0 0)) _ _ k0.out)
      have z1 := Lib.hid ((setRow_other w6 w.heap.size (w.heap.size + 1) (zO.c (.slice none 0 0)) (by omega)).trans k1.out)
      have zS := Lib.hid (below_setRow' (g := w.heap.size) kS.out (Nat.le_refl _) (zO.c (.slice none 0 0)))
      go_wp2_with (first
        | (refine wpList_store_row rfl 41 _ _ rfl w.heap.size (zO.c (.slice none 0 0)) rfl rfl 41 _ k0.out info_op rfl (op_one zO _ _ _) ?_)
        | (refine wpList_store_row rfl 43 _ _ rfl (w.heap.size + 1) (u8s (zerosB 32)) rfl (by kernel_rfl) 43 _ z1.out zi.out rfl (u8s_one _) ?_; rw [setRow_same z1.out]))
      exact bodyPost_ret (results_row_row_tmp rfl _ _ w.heap.size 41 _ _ _ (w.heap.size + 1) 43 _ _ _ rfl z0.out Tryz.underlying41 rfl info_op rfl z1.out Tryz.underlying43 rfl zi.out) rfl (ofPost_eq (hno.out _ zS.out) rfl)
end Go.Proofs.YtfaojjleapenaabGreatDoor.wir.val
namespace Go.Proofs.YtfaojjleapenaabGreatDoor.wir.val
open Go.RowKit Go.YtfaojjleapenaabGreatDoor
set_option linter.unusedVariables false
theorem rowA (w : World) (A B : Obj) : ((w.alloc A).alloc B).heap[w.heap.size]? = some A := rowB (heap_alloc_new w A) (below_a _ _) (by simp)
/-- What the judge says, whatever it is. -/
theorem judgeOf_w (l : List Int) (bv : Value) (w : World) (hr : RdB w bv l) (hl : Bytes l) (hG0 : GlobW w) :
    Calls Tryz.prog 9 #[bv] w fun e w' => ∃ (o : Od) (a : Option Addr) (n c : Nat) (D : List Int), D.length = 32 ∧ e = .returned (.tuple #[.agg (o.c (.slice a n c)), .agg (u8s D), .int .u8 (vd l)]) ∧ Below w.heap.size w w' := by
  refine (judgeOf_any l bv w hr hl hG0).mono ?_
  rintro e w' ⟨hb, ⟨_, he⟩ | ⟨o, a, c, hv, _, _, _, he, _⟩⟩
  · exact ⟨zO, none, 0, 0, zerosB 32, zerosB_length _, he, hb⟩
  · exact ⟨o, a, o.n, c, shaF l, shaF_length _, by rw [hv]; exact he, hb⟩
set_option maxHeartbeats 4000000 in
set_option maxRecDepth 100000 in
theorem judgeFine_any (l : List Int) (bv : Value) (w : World) (hr : RdB w bv l) (hl : Bytes l) (hG0 : GlobW w) :
    Calls Tryz.prog 33 #[bv] w fun e w' => e = .returned (.bool (vd l == 0)) ∧ Below w.heap.size w w' := by
  have hO := Lib.hid (judgeOf_w l bv w hr hl hG0)
  obtain ⟨ba, bc, rfl⟩ := hr.slice
  generalize vd l = V at *
  clear hr hl hG0
  generalize l.length = N at *
  go_enter Tryz.func33, Tryz.ntmps33
  go_wp2_with (first
    | (go_at_call 9; (with_reducible refine (hO.out).mono ?_); rintro e w1 ⟨o, a, n, c, D, hD, rfl, hb⟩; have hb1 := Lib.hid hb; have di := Lib.hid (show (Tryz.prog.info? 43).map (·.size) = some (u8s D).size by rw [u8s_size, hD]; kernel_rfl); have ds := Lib.hid (fun x : Array Value => fun hx : x = u8s (zerosB 32) => (show x.size = (u8s D).size by rw [hx, u8s_size, u8s_size, hD, zerosB_length])); clear hb hD)
    | (refine wpList_store_row rfl 41 _ _ rfl w1.heap.size (o.c (.slice a n c)) rfl rfl 41 _ (rowA w1 _ _) info_op rfl (op_one o a n c) ?_; have hb3 := Lib.hid (below_setRow' (B := w.heap.size) (g := w1.heap.size) ((hb1.out.alloc hb1.out.size (.cells (zO.c (.slice none 0 0)) 41)).alloc (by simp; have := hb1.out.size; omega) (.cells (u8s (zerosB 32)) 43)) hb1.out.size (o.c (.slice a n c))))
    | (refine storeOver _ (w1.heap.size + 1) _ rfl 43 _ _ rfl (u8s D) 43 ((setRow_other _ w1.heap.size (w1.heap.size + 1) _ (by omega)).trans (hn2 w1 _ _)) rfl rfl di.out (ds.out _ (by kernel_rfl)) (u8s_one _) ?_; intro w9 hr9 hb9; have hb9' := Lib.hid hb9; clear hr9 hb9))
  go_ret
  exact ⟨rfl, hb3.out.trans (hb9'.out.mono (by have := hb1.out.size; omega))⟩
theorem vd_good {T : Od} (fT : T.Fit) (hF : T.F.length = 32 * T.n) (hc : chkO T = 0) (hv : verO T = 0) : vd (encO T) = 0 ∧ (encO T).length ≤ 400 ∧ Bytes (encO T) := by
  obtain ⟨h1, h2, h3⟩ := chk_zero hc
  have hl := encO_short T fT h1 hF h3
  refine ⟨?_, hl, encO_bytes T fT h1 h3⟩
  unfold vd
  rw [if_neg (by omega), decO_enc fT hF hc]
  simp only
  rw [if_pos hv]
end Go.Proofs.YtfaojjleapenaabGreatDoor.wir.val
namespace Go.Proofs.YtfaojjleapenaabGreatDoor.wir.val.top
open Go.RowKit Go.YtfaojjleapenaabGreatDoor
set_option linter.unusedVariables false
theorem sliceK {w : World} {a : Option Addr} {n c : Nat} {l : List Int} (h : RdB w (.slice a n c) l) (hn : l.length = n) (u : Nat) (hu : u ≤ n) :
    ∃ a', sliced a u n c 1 = .slice a' (l.drop u).length (c - u) ∧ RdB w (.slice a' (l.drop u).length (c - u)) (l.drop u) := by
  have hd : (l.drop u).length = n - u := by simp [hn]
  have hq := restK h hn u hu
  unfold sliced
  rw [hd]
  by_cases hc : c = u
  · rw [if_pos hc]
    exact ⟨a, rfl, hq.1 (by omega)⟩
  · rw [if_neg hc]
    rcases h with ⟨a', c', he, hz, rfl⟩ | ⟨b, o, c', he, h1, h2, h3, h4⟩
    · obtain rfl : n = 0 := by injection he
      obtain rfl : u = 0 := by omega
      refine ⟨_, rfl, ?_⟩
      injection he with e1 e2 e3
      subst e1 e3
      exact .inl ⟨_, _, rfl, (fun h => by
        cases a with
        | none => have := hz rfl; omega
        | some A => cases h), rfl⟩
    · injection he with e1 e2 e3
      subst e1
      refine ⟨_, rfl, ?_⟩
      have h2 := hq.2 b o rfl
      rw [Option.map_some, addr_add, Nat.mul_one]
      exact h2
theorem wpList_cut {P : Program} {ops : Array Oper} {rest : List Oper} {o : Oper} {a : Act} {w : World} {Q : Exit → Act → World → Prop} (hw : Region.wanted o (yielded ops a.tmps) = true) (t : TypeId) (x y : Operand) (ho : o.op = .slice t x (some y) none none)
    (ht : P.underlying t = some (.slice (P.elem t))) (hs : (P.info? (P.elem t)).map (·.size) = some 1) (W0 : World) (l : List Int) (b : Option Addr) (n c : Nat) (hx : a.eval x = .slice b n c) (hr : RdB W0 (.slice b n c) l) (hn : l.length = n) (u : Nat) (hy : a.eval y = .int .i64 (u : Int)) (hu : u ≤ n) (l' : List Int) (M : Nat) (hd : l.drop u = l') (hM : l'.length = M)
    (h : ∀ b' c', RdB W0 (.slice b' M c') l' → wpList P ops Q rest (a.put o.dst (.slice b' M c')) w) : wpList P ops Q (o :: rest) a w :=
  wpList_step fun K hK => by
    subst hM
    subst hd
    rw [if_pos hw]
    obtain ⟨b', e1, e2⟩ := sliceK hr hn u hu
    have hl := run_slice_l (P := P) (w := w) t b n c ht .i64 (u : Int) (by omega) (by omega)
    have hsz : (sizeOf (P.elem t)).run P w = .ok 1 w := by
      cases hi : P.info? (P.elem t) with
      | none => rw [hi] at hs; cases hs
      | some i =>
        rw [hi] at hs
        have : i.size = 1 := by simpa using hs
        simp [sizeOf, typeInfo, hi, this]
    rw [hsz] at hl
    simp only [Result.andThen_ok, Int.toNat_natCast] at hl
    rw [e1] at hl
    unfold Oper.wp execOp
    simp only [ho, hx, Option.map_some, Option.map_none, hy]
    simp only [Sem.run_bind, run_sliceAt_slice (P := P) (w := w) t _ _ _ _ ht, hl, Sem.run_pure, Result.andThen_ok]
    exact hK _ _ (h b' _ e2)
theorem rdB_capT {w : World} {a : Option Addr} {n c : Nat} {l : List Int} (h : RdB w (.slice a n c) l) : n ≤ c := by
  rcases h with ⟨_, _, e, _, _⟩ | ⟨_, _, _, e, h1, _⟩
  · cases e; exact Nat.zero_le _
  · cases e; exact h1
theorem heldI_nowT {B : Nat} {w : World} {v : Value} {n : Nat} {F : List Int} (h : HeldI B w v n F) : RdI w v n F := h w (fun _ _ _ => rfl) (Nat.le_refl _)
/-- Bytes of an operation without the last one are of none. -/
theorem dec_cut {T : Od} (fT : T.Fit) (hF : T.F.length = 32 * T.n) (hc : chkO T = 0) : decO ((encO T).take ((encO T).length - 1)) = none := by
  obtain ⟨h1, h2, h3⟩ := chk_zero hc
  have hb := encO_bytes T fT h1 h3
  cases hd : decO ((encO T).take ((encO T).length - 1)) with
  | none => rfl
  | some p =>
    exfalso
    obtain ⟨e1, fp, cp, lp⟩ := decO_back (bytes_take _ _ hb) hd
    obtain ⟨g1, g2, g3⟩ := chk_zero cp
    have hpos : 1 ≤ (encO T).length := by
      have h := encO_parts T []
      rw [List.append_nil] at h
      rw [h]; simp
    have hsplit : encO p ++ (encO T).drop ((encO T).length - 1) = encO T ++ [] := by rw [e1, List.take_append_drop, List.append_nil]
    have r1 := rOp_enc fp g1 lp g2 g3 ((encO T).drop ((encO T).length - 1))
    rw [hsplit, rOp_enc fT h1 hF h2 h3 []] at r1
    have h4 := congrArg (fun x : Option (Od × List Int) => (x.map (fun q => q.2.length)).getD 0) r1
    simp at h4
    omega
theorem vd_cut {T : Od} (fT : T.Fit) (hF : T.F.length = 32 * T.n) (hc : chkO T = 0) : vd ((encO T).take ((encO T).length - 1)) = 2 := by
  obtain ⟨h1, h2, h3⟩ := chk_zero hc
  have hl := encO_short T fT h1 hF h3
  unfold vd
  rw [if_neg (by rw [List.length_take]; omega), dec_cut fT hF hc]
/-- What a secret signs, and how E and S are made. -/
theorem sig_made (a : Nat) (h : 1 ≤ a ∧ a < 500000003) (o : Od) (fo : o.Fit) (hF : o.F.length = 32 * o.n) (h0 : chkO (o.byA (grp.pw 4 a)).bare = 0) :
    ∃ T : Od, T.Fit ∧ chkO T = 0 ∧ verO T = 0 ∧ T.n = o.n ∧ T.F = o.F ∧ (T.au = grp.pw 4 a ∧ T.e = eN a (msgB T) ∧ T.s = sN a (msgB T)) ∧ ∀ w v, RdI w v o.n o.F → GlobW w → Calls Tryz.prog 20 #[.int .u32 (a : Int), .agg (o.c v)] w fun e w' => ∃ qa qc, e = .returned (.tuple #[.agg (T.c (.slice qa T.n qc)), .int .i64 0]) ∧ RdI w' (.slice qa T.n qc) T.n T.F ∧ Below w.heap.size w w' := by
  have hy : grp.pw 4 a < 4294967296 := Nat.lt_trans (grp.pw_lt 4 a) (by decide)
  have he := eN_lt a (msgB (o.byA (grp.pw 4 a)))
  have hs := sN_lt a (msgB (o.byA (grp.pw 4 a)))
  have hr := signed_right a (msgB (o.byA (grp.pw 4 a)))
  have hS := fun w v hp hg => opSign_ok a h o fo v w hp hg h0
  obtain ⟨E, hE⟩ : ∃ E, eN a (msgB (o.byA (grp.pw 4 a))) = E := ⟨_, rfl⟩
  obtain ⟨S, hSs⟩ : ∃ S, sN a (msgB (o.byA (grp.pw 4 a))) = S := ⟨_, rfl⟩
  rw [hE] at he hr hS
  rw [hSs] at hs hr hS
  have hc := chk_sigd h0 he hs
  refine ⟨o.sigd (grp.pw 4 a) E S, fit_sigd fo _ E S hy he hs, hc, ver_zero o _ E S hc hr, rfl, rfl, ⟨rfl, ?_, ?_⟩, fun w v hp hg => (hS w v hp hg).mono ?_⟩
  · exact hE.symm
  · exact hSs.symm
  rintro e w' ⟨qv, rfl, hq, hb⟩
  obtain ⟨qa, qc, rfl⟩ := hq.slice
  exact ⟨qa, qc, rfl, hq, hb⟩
theorem ver_right {T : Od} (hc : chkO T = 0) (hv : verO T = 0) : rightB T.au (msgB T) T.s T.e = true := by
  unfold verO at hv
  rw [if_pos hc] at hv
  cases h : rightB T.au (msgB T) T.s T.e with
  | true => rfl
  | false => rw [h] at hv; cases hv
set_option maxHeartbeats 8000000 in
set_option maxRecDepth 100000 in
theorem signed08_any (a : Nat) (h : 1 ≤ a ∧ a < 500000003) (T : Od) (m : List Int) (hau : T.au = grp.pw 4 a) (hE : T.e = eN a m) (hS : T.s = sN a m) (hmb : Bytes m) (hml : m.length ≤ 9991) (hR : rightB T.au m T.s T.e = true) (hI : grp.inG T.au = true)
    (pa : Option Addr) (pc : Nat) (mv : Value) (w : World) (hm : RdB w mv m) (hG0 : GlobW w) :
    Calls Tryz.prog 28 #[.int .u32 (a : Int), .agg (T.c (.slice pa T.n pc)), mv] w fun e w' => e = .returned (.bool true) ∧ Below w.heap.size w w' := by
  have k1 := nonceN_lt a m
  have k2 : eN a m < 500000003 := chalN_lt _ _ _
  have k3 : sN a m < 500000003 := Nat.mod_lt _ (by decide)
  have f1 := Lib.hid (fun (wz : World) => public_ok a h wz)
  have f2 := Lib.hid (fun (wz : World) (hm : RdB wz mv m) (hg : GlobW wz) => nonce_ok a h mv m wz hm hmb hml hg)
  have f3 := Lib.hid (fun (wz : World) => grp.base_any (nonceN a m) (by omega) wz)
  have f4 := Lib.hid (fun (wz : World) (hm : RdB wz mv m) (hg : GlobW wz) => (show Calls Tryz.prog 51 #[.int .u32 (grp.pw 4 (nonceN a m) : Int), .int .u32 (grp.pw 4 a : Int), mv] wz fun e w' => e = .returned (.tuple #[.int .u32 (eN a m : Int), .int .i64 0]) ∧ Below wz.heap.size wz w' from chal_ok (grp.pw 4 (nonceN a m)) (grp.pw 4 a) (pw_u32 _ _) (pw_u32 _ _) mv m wz hm hmb hml hg))
  have f5 := Lib.hid (fun (wz : World) => grp.times_ok (eN a m) a k2 h.2 wz)
  have f6 := Lib.hid (fun (wz : World) => (show Calls Tryz.prog 54 #[.int .u32 (nonceN a m : Int), .int .u32 ((eN a m * a % 500000003 : Nat) : Int)] wz fun e w' => e = .returned (.tuple #[.int .u32 (sN a m : Int), .int .i64 0]) ∧ grp.Grown wz w' from grp.plus_ok (nonceN a m) (eN a m * a % 500000003) k1.2 (Nat.mod_lt _ (by decide)) wz))
  have f7 := Lib.hid (fun (wz : World) (hm : RdB wz mv m) (hg : GlobW wz) => (verify_any T.au hI T.s T.e (by omega) (by omega) mv m wz hm hmb hml hg).mono (R' := fun e w' => e = .returned (.int .i64 0) ∧ Below wz.heap.size wz w') (fun e w' ⟨h1, h2⟩ => ⟨by rw [h1, hR]; rfl, h2⟩))
  obtain ⟨W, hW⟩ : ∃ W, W = w.alloc (.cells (T.c (.slice pa T.n pc)) 41) := ⟨_, rfl⟩
  have hr0 := heap_alloc_new w (.cells (T.c (.slice pa T.n pc)) 41)
  have hb0 := (Below.refl w.heap.size w).alloc (Nat.le_refl _) (.cells (T.c (.slice pa T.n pc)) 41)
  rw [← hW] at hr0 hb0
  have r1 := Lib.hid hr0
  have hS0 := Lib.hid hb0
  have rm := Lib.hid (hm.mono hb0)
  have hG := Lib.hid (hG0.mono hb0)
  clear hr0 hb0 hm hG0 hmb hml hR hI
  obtain ⟨Tau, Tn, TF, Tst, Tk, Tkey, Tv, Te, Ts⟩ := T
  dsimp only at *
  subst hau hE hS
  have hwr : IntKind.u64.wrap (nonceN a m : Int) = (nonceN a m : Int) := u64_nat _ (by omega)
  generalize grp.pw 4 (nonceN a m) = R at *
  generalize nonceN a m = K at *
  generalize grp.pw 4 a = Y at *
  generalize eN a m * a % 500000003 = X at *
  generalize eN a m = C at *
  generalize sN a m = S at *
  have heq := Lib.hid (show ∀ wz, (binOp .eql 39 (.agg #[.int .u32 (C : Int), .int .u32 (S : Int)]) (.agg #[.int .u32 (C : Int), .int .u32 (S : Int)])).run Tryz.prog wz = .ok (.bool true) wz from fun wz => by rw [eqlG C S C S wz]; simp)
  clear k1 k2 k3 h
  go_enter Tryz.func28, Tryz.ntmps28
  go_upto_region 1 with fail
  rw [← hW]
  clear hW
  go_upto_region 7 with (first
    | (go_at_call 39; (with_reducible refine (f1.out _).mono ?_); rintro e9 w4 ⟨rfl, q2⟩; (try replace r1 := Lib.hid (rowB r1.out q2 (Array.getElem?_eq_some_iff.1 r1.out).1)); (try replace rm := Lib.hid (rm.out.mono q2)); (try replace hG := Lib.hid (hG.out.mono q2)); replace hS0 := Lib.hid (hS0.out.trans (Below.mono q2 hS0.out.size)); clear q2)
    | (go_at_call 50; (with_reducible refine (f2.out _ rm.out hG.out).mono ?_); rintro e9 w4 ⟨rfl, q2⟩; (try replace r1 := Lib.hid (rowB r1.out q2 (Array.getElem?_eq_some_iff.1 r1.out).1)); (try replace rm := Lib.hid (rm.out.mono q2)); (try replace hG := Lib.hid (hG.out.mono q2)); replace hS0 := Lib.hid (hS0.out.trans (Below.mono q2 hS0.out.size)); clear q2)
    | (go_at_call 52; (with_reducible refine (f3.out _).mono ?_); rintro e9 w4 ⟨rfl, q2⟩; (try replace r1 := Lib.hid (rowB r1.out q2 (Array.getElem?_eq_some_iff.1 r1.out).1)); (try replace rm := Lib.hid (rm.out.mono q2)); (try replace hG := Lib.hid (hG.out.mono q2)); replace hS0 := Lib.hid (hS0.out.trans (Below.mono q2 hS0.out.size)); clear q2)
    | (go_at_call 51; (with_reducible refine (f4.out _ rm.out hG.out).mono ?_); rintro e9 w4 ⟨rfl, q2⟩; (try replace r1 := Lib.hid (rowB r1.out q2 (Array.getElem?_eq_some_iff.1 r1.out).1)); (try replace rm := Lib.hid (rm.out.mono q2)); (try replace hG := Lib.hid (hG.out.mono q2)); replace hS0 := Lib.hid (hS0.out.trans (Below.mono q2 hS0.out.size)); clear q2)
    | (go_at_call 53; (with_reducible refine (f5.out _).mono ?_); rintro e9 w4 ⟨rfl, q2⟩; (try replace r1 := Lib.hid (rowB r1.out q2 (Array.getElem?_eq_some_iff.1 r1.out).1)); (try replace rm := Lib.hid (rm.out.mono q2)); (try replace hG := Lib.hid (hG.out.mono q2)); replace hS0 := Lib.hid (hS0.out.trans (Below.mono q2 hS0.out.size)); clear q2)
    | (go_at_call 54; (with_reducible refine (f6.out _).mono ?_); rintro e9 w4 ⟨rfl, q2⟩; (try replace r1 := Lib.hid (rowB r1.out q2 (Array.getElem?_eq_some_iff.1 r1.out).1)); (try replace rm := Lib.hid (rm.out.mono q2)); (try replace hG := Lib.hid (hG.out.mono q2)); replace hS0 := Lib.hid (hS0.out.trans (Below.mono q2 hS0.out.size)); clear q2))
  obtain ⟨c0, _, _, _, h9, _, _⟩ := cellsO r1.out
  dsimp only at c0 h9
  have h9 := Lib.hid h9
  go_wp2_with (first
    | (refine wpList_midV rfl 39 _ rfl w.heap.size 9 rfl [.int .u32 (C : Int), .int .u32 (S : Int)] _ h9.out Tryz.underlying39 rfl info_sig ?_)
    | (refine wpList_eqlS rfl 39 _ _ rfl #[.int .u32 (C : Int), .int .u32 (S : Int)] #[.int .u32 (C : Int), .int .u32 (S : Int)] rfl rfl (by kernel_rfl) true (heq.out _) ?_)
    | (go_at_call 45; (with_reducible refine (f7.out _ rm.out hG.out).mono ?_); rintro e9 w4 ⟨rfl, q2⟩; (try replace r1 := Lib.hid (rowB r1.out q2 (Array.getElem?_eq_some_iff.1 r1.out).1)); (try replace rm := Lib.hid (rm.out.mono q2)); (try replace hG := Lib.hid (hG.out.mono q2)); replace hS0 := Lib.hid (hS0.out.trans (Below.mono q2 hS0.out.size)); clear q2))
  go_ret
  exact ⟨rfl, hS0.out⟩
def xO : Od := ⟨0, 0, [], 1, 3, ⟨#[120]⟩, ⟨0, 0, 0, ⟨#[]⟩⟩, 0, 0⟩
theorem xO_fit : xO.Fit := ⟨by decide, bytes_nil, by decide, by decide, by decide, by decide, ⟨by decide, by decide, by decide, by decide⟩, by decide, by decide⟩
theorem xO_ok2 : (decide ((xO.st : Int) ≤ 1000000000000) && actB xO.k xO.key xO.v) = true := by decide +kernel
theorem xO_chk : chkO (xO.byA (grp.pw 4 9)).bare = 0 := chk_ok (show ¬ 4 < 0 by decide) rfl (okO_of (xO.byA (grp.pw 4 9)).bare (grp.inG_pw 4 9 grp.in4) xO_ok2 gO_sig0)
set_option maxHeartbeats 8000000 in
set_option maxRecDepth 100000 in
theorem alive08_any (w : World) (hG0 : GlobW w) : Calls Tryz.prog 26 #[] w fun e w' => e = .returned (.bool true) ∧ Below w.heap.size w w' := by
  obtain ⟨T, fT, cT, vT, nT, FT, _, hSg⟩ := sig_made 9 ⟨by omega, by omega⟩ xO xO_fit rfl xO_chk
  have hF : T.F.length = 32 * T.n := by rw [nT, FT]; rfl
  obtain ⟨g1, g2, g3⟩ := vd_good fT hF cT vT
  have g4 := vd_cut fT hF cT
  have hpos : 1 ≤ (encO T).length := by
    have h := encO_parts T []
    rw [List.append_nil] at h
    rw [h]; simp
  have f1 := Lib.hid (fun (wz : World) (hg : GlobW wz) => (show Calls Tryz.prog 20 #[.int .u32 9, .agg #[.int .u32 0, .slice none 0 0, .int .u64 1, .int .u8 3, .string ⟨#[120]⟩, .int .u8 0, .int .i64 0, .int .u64 0, .string ⟨#[]⟩, .int .u32 0, .int .u32 0]] wz fun e w' => ∃ qa qc, e = .returned (.tuple #[.agg (T.c (.slice qa T.n qc)), .int .i64 0]) ∧ RdI w' (.slice qa T.n qc) T.n T.F ∧ Below wz.heap.size wz w' from hSg wz (.slice none 0 0) (.inl ⟨none, 0, rfl, fun _ => rfl, rfl, rfl⟩) hg))
  have f2 := Lib.hid (fun wz v (h : RdI wz v T.n T.F) => opEncode_ok T fT v wz h cT)
  have f3 := Lib.hid (fun (wz : World) (v : Value) (h : RdB wz v (encO T)) (hg : GlobW wz) => (show Calls Tryz.prog 33 #[v] wz fun e w' => e = .returned (.bool true) ∧ Below wz.heap.size wz w' from by
    have h := judgeFine_any _ v wz h g3 hg
    rw [g1] at h
    exact h))
  have f4 := Lib.hid (fun (wz : World) (v : Value) (h : RdB wz v ((encO T).take ((encO T).length - 1))) (hg : GlobW wz) => (show Calls Tryz.prog 33 #[v] wz fun e w' => e = .returned (.bool false) ∧ Below wz.heap.size wz w' from by
    have h := judgeFine_any _ v wz h (bytes_take _ _ g3) hg
    rw [g4] at h
    exact h))
  have hS0 := Lib.hid (Below.refl w.heap.size w)
  have hG := Lib.hid hG0
  obtain ⟨N, hN⟩ : ∃ N, (encO T).length = N := ⟨_, rfl⟩
  rw [hN] at f4 hpos g2
  have hN' := Lib.hid hN
  have f5 := Lib.hid (fun (wz : World) (a : Option Addr) (c : Nat) (h : RdB wz (.slice a N c) (encO T)) => rdB_cut h hN (N - 1) (by omega))
  have i1 : (0 : Int) < (N : Int) := by omega
  have i2 : IntKind.i64.wrap ((N : Int) - 1) = ((N - 1 : Nat) : Int) := by rw [IntWalk.i64_in _ (by omega)]; omega
  have g2' := Lib.hid g2
  have hpos' := Lib.hid hpos
  clear hSg g1 g3 g4 hG0 nT FT fT cT vT hF hN g2 hpos
  generalize encO T = B at *
  go_enter Tryz.func26, Tryz.ntmps26
  go_upto_region 2 with (first
    | (go_at_call 20; (with_reducible refine (f1.out _ hG.out).mono ?_); rintro e9 w4 ⟨qa, qc, rfl, q1, q2⟩; (try replace hG := Lib.hid (hG.out.mono q2)); replace hS0 := Lib.hid (hS0.out.trans (Below.mono q2 hS0.out.size)); have rT := Lib.hid q1; clear q1; clear q2)
    | (refine storeNew _ rfl 41 _ _ rfl (T.c (.slice qa T.n qc)) 41 rfl rfl info_op rfl (op_one T qa T.n qc) ?_; intro wx hrx hbx; (try replace hG := Lib.hid (hG.out.mono hbx)); (try replace rT := Lib.hid (rT.out.mono hbx)); replace hS0 := Lib.hid (hS0.out.trans (Below.mono hbx hS0.out.size)); have r1 := Lib.hid hrx; clear hrx hbx))
  go_upto_region 3 with (first
    | (refine wpList_load_row_g rfl 41 _ rfl _ rfl 41 (T.c (.slice qa T.n qc)) (0, 0) _ r1.out Tryz.underlying41 rfl info_op ?_)
    | (go_at_call 14; (with_reducible refine (f2.out _ _ rT.out).mono ?_); rintro e9 w4 ⟨sv, rfl, q1, q2⟩; (try replace r1 := Lib.hid (rowB r1.out q2 (Array.getElem?_eq_some_iff.1 r1.out).1)); (try replace hG := Lib.hid (hG.out.mono q2)); (try replace rT := Lib.hid (rT.out.mono q2)); replace hS0 := Lib.hid (hS0.out.trans (Below.mono q2 hS0.out.size)); have rB := Lib.hid q1.rd; clear q1; clear q2))
  obtain ⟨ba, bc, hsv⟩ := rB.out.slice
  subst hsv
  rw [hN'.out] at rB ⊢
  have rC := Lib.hid (f5.out _ _ _ rB.out)
  have hcap : N ≤ bc := rdB_capT rB.out
  have hcap2 : N - 1 ≤ bc := by omega
  have hcap3 : (0 : Int) ≤ ((N - 1 : Nat) : Int) := by omega
  go_wp2_with (first
    | (go_at_call 33; (with_reducible refine (f3.out _ _ rB.out hG.out).mono ?_); rintro e9 w4 ⟨rfl, q2⟩; (try replace r1 := Lib.hid (rowB r1.out q2 (Array.getElem?_eq_some_iff.1 r1.out).1)); (try replace hG := Lib.hid (hG.out.mono q2)); (try replace rT := Lib.hid (rT.out.mono q2)); (try replace rB := Lib.hid (rB.out.mono q2)); (try replace rC := Lib.hid (rC.out.mono q2)); replace hS0 := Lib.hid (hS0.out.trans (Below.mono q2 hS0.out.size)); clear q2)
    | (go_at_call 33; (with_reducible refine (f4.out _ _ rC.out hG.out).mono ?_); rintro e9 w4 ⟨rfl, q2⟩; (try replace r1 := Lib.hid (rowB r1.out q2 (Array.getElem?_eq_some_iff.1 r1.out).1)); (try replace hG := Lib.hid (hG.out.mono q2)); (try replace rT := Lib.hid (rT.out.mono q2)); (try replace rB := Lib.hid (rB.out.mono q2)); (try replace rC := Lib.hid (rC.out.mono q2)); replace hS0 := Lib.hid (hS0.out.trans (Below.mono q2 hS0.out.size)); clear q2))
  go_ret
  exact ⟨rfl, hS0.out⟩
end Go.Proofs.YtfaojjleapenaabGreatDoor.wir.val.top
namespace Go.Proofs.YtfaojjleapenaabGreatDoor.wir.val.top
open Go.RowKit Go.YtfaojjleapenaabGreatDoor
set_option linter.unusedVariables false
theorem rdB_nth {w : World} {a : Option Addr} {n c : Nat} {l : List Int} (h : RdB w (.slice a n c) l) (i : Nat) (hi : i < l.length) : ∃ b o, a = some ⟨b, o, none⟩ ∧ b < w.heap.size ∧ w.cell? ⟨b, o + i, none⟩ = some (.int .u8 (ith l i)) := by
  rcases h with ⟨_, _, e, h1, h2⟩ | ⟨b, o, c', e, h1, h2, h3, h4⟩
  · rw [h2] at hi; exact absurd hi (Nat.not_lt_zero _)
  · cases e
    exact ⟨b, o, rfl, h3, h4 i hi⟩
theorem rangeV {w : World} {g : Nat} {o : Od} {pv : Value} (h : w.heap[g]? = some (.cells (o.c pv) 41 (0, 0))) :
    w.rangeAt g 5 [.int .u8 o.v.k, .int .i64 o.v.n, .int .u64 (o.v.b : Int), .string o.v.s] ∧ w.cell? ⟨g, 3, none⟩ = some (.int .u8 o.k) ∧ w.cell? ⟨g, 4, none⟩ = some (.string o.key) := by
  refine ⟨?_, cell_of_row _ _ _ _ _ _ h, cell_of_row _ _ _ _ _ _ h⟩
  intro j x hx
  have hj : j < 4 := (List.getElem?_eq_some_iff.1 hx).1
  rw [← hx]
  unfold World.cell?
  rw [show (⟨g, 5 + j, none⟩ : Addr).block = g from rfl, h]
  match j, hj with
  | 0, _ => rfl
  | 1, _ => rfl
  | 2, _ => rfl
  | 3, _ => rfl
theorem neqV8 (v : Va) (w : World) : (binOp .neq 35 (.agg #[.int .u8 v.k, .int .i64 v.n, .int .u64 (v.b : Int), .string v.s]) (.agg #[.int .u8 v.k, .int .i64 v.n, .int .u64 (v.b : Int), .string v.s])).run Tryz.prog w = .ok (.bool false) w := by
  rw [run_neq_struct]
  have h0 : Tryz.prog.underlying 35 = some (.struct (Tryz.prog.fieldsOf 35)) := by kernel_rfl
  have h1 : Tryz.prog.stoodInHeld 35 = false := by kernel_rfl
  rw [run_equalIn_agg _ _ _ _ _ h0 h1]
  simp [go_sem]
theorem wpList_neqS {P : Program} {ops : Array Oper} {rest : List Oper} {o : Oper} {a : Act} {w : World} {Q : Exit → Act → World → Prop} (hw : Region.wanted o (yielded ops a.tmps) = true) (T : TypeId) (x y : Operand) (ho : o.op = .binOp .neq T x y T) (cx cy : Array Value) (hx : a.eval x = .agg cx) (hy : a.eval y = .agg cy)
    (h0 : P.eqGuardType P.depth T = false) (B : Bool) (hrun : (binOp .neq T (.agg cx) (.agg cy)).run P w = .ok (.bool B) w) (h : wpList P ops Q rest (a.put o.dst (.bool B)) w) : wpList P ops Q (o :: rest) a w :=
  wpList_step fun K hK => by
    rw [if_pos hw]
    have hg := run_eqGuard_agg (P := P) w .neq T x y cx cy h0
    unfold Oper.wp execOp
    simp only [ho, hx, hy, Sem.run_bind, Sem.run_pure, hg, Result.andThen_ok, hrun]
    exact hK _ _ h
theorem readC_ids {n : Nat} {F : List Int} (hn : n ≤ 4) (hF : F.length = 32 * n) (m : List Int) : readC ((numB n ++ F) ++ m) 4 32 = some (n, numL n) := by
  have h := readF_num n (by omega) (F ++ m)
  rw [← List.append_assoc] at h
  unfold readC
  rw [h]
  have h2 : ((n : Nat) : Int) ≤ 4 ∧ n ≤ (((numB n ++ F) ++ m).length - numL n) / 32 := by
    refine ⟨by omega, ?_⟩
    rw [List.length_append, List.length_append, numB_length]; omega
  simp only [h2, and_self, if_true]
theorem readC_key {s : ByteArray} (hs : s.size ≤ 20) (m : List Int) : readC (textB (sI s) ++ m) 20 1 = some (s.size, numL s.size) ∧ (textB (sI s) ++ m).drop (numL s.size + s.size) = m ∧ ((textB (sI s) ++ m).drop (numL s.size)).take s.size = sI s := by
  have e : textB (sI s) = numB s.size ++ sI s := by unfold textB; rw [sI_length]
  refine ⟨?_, List.drop_left' (by rw [e, List.length_append, numB_length, sI_length]), by rw [e, List.append_assoc, List.drop_left' (numB_length _), List.take_left' (sI_length s)]⟩
  rw [e]
  unfold readC
  rw [List.append_assoc, readF_num _ (by omega)]
  simp only
  rw [if_pos]
  refine ⟨by omega, ?_⟩
  rw [Nat.div_one, List.length_append, List.length_append, numB_length, sI_length]; omega
theorem wnum_own (n : Nat) (hn : n < 4294967296) (wz : World) : Calls Tryz.prog 35 #[.int .u64 (n : Int)] wz fun e w' => ∃ sv, e = .returned sv ∧ OwnB wz.heap.size 5 w' sv (numB n) ∧ Below wz.heap.size wz w' :=
  (number_any n (by omega) wz).mono fun e w' ⟨h1, h2, h3⟩ => ⟨_, h1, ownB_row h2 (numL n) (numB_length n) (by have := numL_le n (by omega); unfold maxLen; omega) (Nat.le_refl _), h3⟩
end Go.Proofs.YtfaojjleapenaabGreatDoor.wir.val.top
namespace Go.Proofs.YtfaojjleapenaabGreatDoor.wir.val.top
open Go.RowKit Go.YtfaojjleapenaabGreatDoor
set_option linter.unusedVariables false
set_option maxHeartbeats 16000000 in
set_option maxRecDepth 100000 in
theorem read08_A (T : Od) (fT : T.Fit) (hF : T.F.length = 32 * T.n) (hc : chkO T = 0) (hk : T.k = 1) (pv bv : Value) (w : World) (hp : RdI w pv T.n T.F) (hr : RdB w bv (encO T)) :
    Calls Tryz.prog 27 #[.agg (T.c pv), bv] w fun e w' => e = .returned (.bool true) ∧ Below w.heap.size w w' := by
  obtain ⟨n4, hR, hA⟩ := chk_zero hc
  have hb := encO_bytes T fT n4 hA
  have hl := encO_short T fT n4 hF hA
  obtain ⟨L7, h7⟩ : ∃ L, numB T.e ++ numB T.s = L := ⟨_, rfl⟩
  obtain ⟨L5, h5⟩ : ∃ L, L7 = L := ⟨_, rfl⟩
  obtain ⟨L4, h4⟩ : ∃ L, [T.k] ++ L5 = L := ⟨_, rfl⟩
  obtain ⟨L3, h3⟩ : ∃ L, numB T.st ++ L4 = L := ⟨_, rfl⟩
  obtain ⟨L2, h2⟩ : ∃ L, (numB T.n ++ T.F) ++ L3 = L := ⟨_, rfl⟩
  obtain ⟨L1, h1⟩ : ∃ L, numB T.au ++ L2 = L := ⟨_, rfl⟩
  have h0 : encO T = [111] ++ L1 := by
    have h := encO_parts T []
    simp only [List.append_nil] at h
    rw [h, ← h1, ← h2, ← h3, ← h4, ← h5, ← h7]
    unfold Ac.B
    simp [hk]
  have b1 : Bytes L1 := bytes_tail (a := [111]) (by rw [← h0]; exact hb)
  have b2 : Bytes L2 := bytes_tail (a := numB T.au) (by rw [h1]; exact b1)
  have b3 : Bytes L3 := bytes_tail (a := numB T.n ++ T.F) (by rw [h2]; exact b2)
  have b4 : Bytes L4 := bytes_tail (a := numB T.st) (by rw [h3]; exact b3)
  have b5 : Bytes L5 := bytes_tail (a := [T.k]) (by rw [h4]; exact b4)
  have d1 : (encO T).drop 1 = L1 := by rw [h0]; rfl
  have d2 : L1.drop (numL T.au) = L2 := by rw [← h1, List.drop_left' (numB_length _)]
  have d3 : L2.drop (numL T.n + T.n * 32) = L3 := by rw [← h2, List.drop_left' (by rw [List.length_append, numB_length, hF]; omega)]
  have d5 : L3.drop (numL T.st + 1) = L5 := by rw [← h3, ← h4, ← List.append_assoc, List.drop_left' (by rw [List.length_append, numB_length]; rfl)]
  have e0 : (encO T).length = L1.length + 1 := by rw [h0]; simp; try omega
  have e1 : L1.length = numL T.au + L2.length := by rw [← h1, List.length_append, numB_length]
  have e2 : L2.length = (numL T.n + T.n * 32) + L3.length := by rw [← h2, List.length_append, List.length_append, numB_length, hF]; omega
  have e3 : L3.length = numL T.st + 1 + L5.length := by rw [← h3, ← h4, List.length_append, numB_length, List.length_append]; simp; omega
  have k0 : ith (encO T) 0 = 111 := by rw [h0]; rfl
  have k3 : ith L3 (numL T.st) = T.k := by
    rw [← h3, ← h4]
    unfold ith
    rw [List.getElem?_append_right (by rw [numB_length]; exact Nat.le_refl _), numB_length, Nat.sub_self]
    rfl
  have e5 : L5.length = L7.length := by rw [h5]
  have fe := fT.e; have fs := fT.s; have fau := fT.au; have fst := fT.st
  have e7 : L7.length = numL T.e + numL T.s := by rw [← h7, List.length_append, numB_length, numB_length]
  have f1 := Lib.hid (fun (wz : World) (v : Value) (h : RdB wz v L1) => readNumber_some L1 v wz h b1 T.au (numL T.au) (by rw [← h1]; exact readF_num _ (by omega) _))
  have f2 := Lib.hid (fun (wz : World) (v : Value) (h : RdB wz v L2) => (show Calls Tryz.prog 47 #[v, .int .i64 4] wz fun e w' => ∃ g, e = .returned (.tuple #[.slice (some ⟨g, 0, none⟩) T.n T.n, .int .i64 ((numL T.n + T.n * 32 : Nat) : Int), .int .i64 0]) ∧ RdI w' (.slice (some ⟨g, 0, none⟩) T.n T.n) T.n T.F ∧ Below wz.heap.size wz w' from by
    have hq := readIDs_ok L2 v 4 (by omega) (by omega) wz h b2 (by omega) T.n (numL T.n) (by rw [← h2]; exact readC_ids n4 hF L3)
    have ht : (L2.drop (numL T.n)).take (T.n * 32) = T.F := by rw [← h2, List.append_assoc, List.drop_left' (numB_length _), List.take_left' (by rw [hF]; omega)]
    rw [ht] at hq
    refine hq.mono ?_
    rintro e w' ⟨g1, g2⟩
    rw [if_pos hR] at g2
    exact ⟨_, g2.1, rdI_row g2.2 T.n hF (by omega), g1⟩))
  have f3 := Lib.hid (fun (wz : World) (va vb : Value) (h1 : RdI wz va T.n T.F) (h2 : RdI wz vb T.n T.F) => (sameIDs_any T.n T.n T.F T.F va vb wz (by omega) h1 h2).mono (R' := fun e w' => e = .returned (.bool true) ∧ Below wz.heap.size wz w') (fun e w' ⟨a1, a2⟩ => ⟨by rw [a1, sameF_self], a2.below (Below.refl _ _)⟩))
  have f4 := Lib.hid (fun (wz : World) (v : Value) (h : RdB wz v L3) => readNumber_some L3 v wz h b3 T.st (numL T.st) (by rw [← h3]; exact readF_num _ (by omega) _))
  have hne := Lib.hid (fun (wz : World) => wnum_own T.e (by omega) wz)
  have hns := Lib.hid (fun (wz : World) => wnum_own T.s (by omega) wz)
  have f9 := Lib.hid (fun (wz : World) (va vb : Value) (h1 : RdB wz va L7) (h2 : RdB wz vb (numB T.e ++ numB T.s)) => same_true va vb L7 wz (by omega) h1 (by rw [← h7]; exact h2))
  have le := Lib.hid (numL_le T.e (by omega))
  have ls := Lib.hid (numL_le T.s (by omega))
  have hwe := u64_nat T.e (by omega)
  have hws := u64_nat T.s (by omega)
  have hwa := u64_nat T.au (by omega)
  obtain ⟨pa, pc, rfl⟩ := hp.slice
  obtain ⟨ba, bc, rfl⟩ := hr.slice
  obtain ⟨b0, o0, hba, hb0l, hc0⟩ := rdB_nth hr 0 (by omega)
  rw [k0, Nat.add_zero] at hc0
  subst hba
  obtain ⟨W, hW⟩ : ∃ W, W = w.alloc (.cells (T.c (.slice pa T.n pc)) 41) := ⟨_, rfl⟩
  have hr0 := heap_alloc_new w (.cells (T.c (.slice pa T.n pc)) 41)
  have hbel := (Below.refl w.heap.size w).alloc (Nat.le_refl _) (.cells (T.c (.slice pa T.n pc)) 41)
  rw [← hW] at hr0 hbel
  have r1 := Lib.hid hr0
  have hS0 := Lib.hid hbel
  have rp := Lib.hid (hp.mono hbel)
  have x0 := Lib.hid (hr.mono hbel)
  have hcW : W.cell? ⟨b0, o0, none⟩ = some (.int .u8 111) := (hbel.cell (p := (⟨b0, o0, none⟩ : Addr)) hb0l).trans hc0
  obtain ⟨M0, hM0⟩ : ∃ M, (encO T).length = M := ⟨_, rfl⟩
  obtain ⟨M1, hM1⟩ : ∃ M, L1.length = M := ⟨_, rfl⟩
  obtain ⟨M2, hM2⟩ : ∃ M, L2.length = M := ⟨_, rfl⟩
  obtain ⟨M3, hM3⟩ : ∃ M, L3.length = M := ⟨_, rfl⟩
  obtain ⟨M5, hM5⟩ : ∃ M, L5.length = M := ⟨_, rfl⟩
  obtain ⟨M7, hM7⟩ : ∃ M, L7.length = M := ⟨_, rfl⟩
  obtain ⟨U1, hU1⟩ : ∃ U, numL T.au = U := ⟨_, rfl⟩
  obtain ⟨U2, hU2⟩ : ∃ U, numL T.n + T.n * 32 = U := ⟨_, rfl⟩
  obtain ⟨U3, hU3⟩ : ∃ U, numL T.st = U := ⟨_, rfl⟩
  rw [hM0, hM1] at e0; rw [hM1, hM2, hU1] at e1; rw [hM2, hM3, hU2] at e2; rw [hM3, hM5, hU3] at e3; rw [hM7] at e7
  rw [hM0] at hl x0 ⊢
  rw [hU1] at f1 d2; rw [hU2] at f2 d3; rw [hU3] at f4 d5 k3
  have hM7p : 1 ≤ M7 := by have := numL_pos T.e; omega
  rw [hM5, hM7] at e5
  have i0 : ((M0 : Int) == 0) = false := by simp only [beq_eq_false_iff_ne, ne_eq]; omega
  have i1 : ¬ (M1 : Int) < (U1 : Int) := by omega
  have j1 : ¬ (M2 : Int) < (U1 : Int) ∨ True := .inr trivial
  have i2 : ¬ (M2 : Int) < (U2 : Int) := by omega
  have i3 : decide ((M3 : Int) ≤ (U3 : Int)) = false := by simp; omega
  have i3c : decide (M3 ≤ U3) = false := by simp; omega
  have i3d : ¬ (M3 : Int) ≤ (U3 : Int) := by omega
  have i3e : ¬ M3 ≤ U3 := by omega
  have i3b : (U3 : Int) < (M3 : Int) := by omega
  have w3 : IntKind.i64.wrap ((U3 : Int) + 1) = ((U3 + 1 : Nat) : Int) := by rw [IntWalk.i64_in _ (by omega)]; omega
  have hM0 := Lib.hid hM0
  have hM1 := Lib.hid hM1
  have hM2 := Lib.hid hM2
  have hM3 := Lib.hid hM3
  have hM5 := Lib.hid hM5
  have hM7 := Lib.hid hM7
  have u0 := Lib.hid (show 1 ≤ M0 by omega); have u1 := Lib.hid (show U1 ≤ M1 by omega); have u2 := Lib.hid (show U2 ≤ M2 by omega); have u3 := Lib.hid (show U3 + 1 ≤ M3 by omega)
  have u3b := Lib.hid (show U3 < M3 by omega)
  have d1 := Lib.hid d1; have d2 := Lib.hid d2; have d3 := Lib.hid d3; have d5 := Lib.hid d5; have k3 := Lib.hid k3
  have t1 : (T.k != 1) = false := by rw [hk]; rfl
  have t4 : (T.k == 4) = false := by rw [hk]; rfl
  obtain rfl : L7 = L5 := h5
  clear hr0 hbel hp hr hb hl n4 hR hA h0 h1 h2 h3 h4 h7 b1 b2 b3 b4 b5 e0 e1 e2 e3 e7 fe fs fau fst k0 hU1 hU2 hU3 hM7p fT hF hc hk hc0 hb0l e5
  generalize encO T = L0 at *
  go_enter Tryz.func27, Tryz.ntmps27
  go_upto_region 1 with fail
  rw [← hW]
  clear hW
  obtain ⟨c0, c1, c2, _, _, _, _⟩ := cellsO r1.out
  go_upto_region 4 with (refine wpList_cut rfl 22 _ _ rfl (by kernel_rfl) (by kernel_rfl) _ L0 _ _ _ rfl x0.out hM0.out (1) rfl u0.out L1 M1 d1.out hM1.out ?_; intro xax1 xcx1 x10; have x1 := Lib.hid x10; clear x10)
  clear x0 hcW
  go_upto_region 8 with (first
    | (go_at_call 46; (with_reducible refine (f1.out _ _ x1.out).mono ?_); rintro e9 w4 ⟨rfl, rfl⟩)
    | (refine wpList_cut rfl 22 _ _ rfl (by kernel_rfl) (by kernel_rfl) _ L1 _ _ _ rfl x1.out hM1.out (U1) rfl u1.out L2 M2 d2.out hM2.out ?_; intro xax2 xcx2 x20; have x2 := Lib.hid x20; clear x20))
  go_upto_region 9 with (go_at_call 47; (with_reducible refine (f2.out _ _ x2.out).mono ?_); rintro e9 w4 ⟨g5, rfl, q1, q2⟩; (try replace r1 := Lib.hid (rowB r1.out q2 (Array.getElem?_eq_some_iff.1 r1.out).1)); (try replace rp := Lib.hid (rp.out.mono q2)); (try replace x2 := Lib.hid (x2.out.mono q2)); replace hS0 := Lib.hid (hS0.out.trans (Below.mono q2 hS0.out.size)); have rq := Lib.hid q1; clear q1; clear q2)
  clear c0 c1 c2
  obtain ⟨c0, c1, c2, _, _, _, _⟩ := cellsO r1.out
  go_upto_region 12 with (first
    | (go_at_call 32; (with_reducible refine (f3.out _ _ _ rq.out rp.out).mono ?_); rintro e9 w4 ⟨rfl, q2⟩; (try replace r1 := Lib.hid (rowB r1.out q2 (Array.getElem?_eq_some_iff.1 r1.out).1)); (try replace rp := Lib.hid (rp.out.mono q2)); (try replace x2 := Lib.hid (x2.out.mono q2)); (try replace rq := Lib.hid (rq.out.mono q2)); replace hS0 := Lib.hid (hS0.out.trans (Below.mono q2 hS0.out.size)); clear q2)
    | (refine wpList_cut rfl 22 _ _ rfl (by kernel_rfl) (by kernel_rfl) _ L2 _ _ _ rfl x2.out hM2.out (U2) rfl u2.out L3 M3 d3.out hM3.out ?_; intro xax3 xcx3 x30; have x3 := Lib.hid x30; clear x30))
  clear c0 c1 c2
  obtain ⟨c0, _, c2, _, _, _, _⟩ := cellsO r1.out
  obtain ⟨hrv, c3, ck⟩ := rangeV r1.out
  have hrv := Lib.hid hrv
  go_upto_region 13 with (go_at_call 46; (with_reducible refine (f4.out _ _ x3.out).mono ?_); rintro e9 w4 ⟨rfl, rfl⟩)
  obtain ⟨b3, o3, hb3, hb3l, hc3⟩ := rdB_nth x3.out U3 (by rw [hM3.out]; exact u3b.out)
  rw [k3.out] at hc3
  subst hb3
  have hg1 := Lib.hid (Array.getElem?_eq_some_iff.1 r1.out).1
  have hc3 := Lib.hid hc3; have c3 := Lib.hid c3; have c2 := Lib.hid c2; have hb3l := Lib.hid hb3l
  refine wp_region_quiet (C := fun w' => Below w4.heap.size w4 w') (by kernel_rfl) (by kernel_rfl) ((Below.refl _ _).drew) ?_
  simp only []
  iterate 5 (go_big_quiet_want; go_big_quiet_op; first | go_big_quiet_on | (refine ⟨_, fun _ _ => rfl, ?_⟩; go_big_quiet_on))
  refine wpq (.int .u64 (T.st : Int)) rfl (quiet_cell 33 _ rfl w.heap.size (2) rfl (.int .u64 (T.st : Int)) (fun w9 h9 => (h9.cell (p := (⟨w.heap.size, 2, none⟩ : Addr)) hg1.out).trans c2.out) Tryz.isAgg33) rfl (fun K hK => ?_); go_simp; refine hK _ ?_; clear hK K
  iterate 12 (go_big_quiet_want; go_big_quiet_op; first | go_big_quiet_on | (refine ⟨_, fun _ _ => rfl, ?_⟩; go_big_quiet_on))
  refine wpq (.int .u8 T.k) rfl (quiet_cell 5 _ rfl b3 (o3 + U3) rfl (.int .u8 T.k) (fun w9 h9 => (h9.cell (p := (⟨b3, o3 + U3, none⟩ : Addr)) hb3l.out).trans hc3.out) Tryz.isAgg5) rfl (fun K hK => ?_); go_simp; refine hK _ ?_; clear hK K
  iterate 2 (go_big_quiet_want; go_big_quiet_op; first | go_big_quiet_on | (refine ⟨_, fun _ _ => rfl, ?_⟩; go_big_quiet_on))
  refine wpq (.int .u8 T.k) rfl (quiet_cell 5 _ rfl w.heap.size (3) rfl (.int .u8 T.k) (fun w9 h9 => (h9.cell (p := (⟨w.heap.size, 3, none⟩ : Addr)) hg1.out).trans c3.out) Tryz.isAgg5) rfl (fun K hK => ?_); go_simp; refine hK _ ?_; clear hK K
  iterate 2 (go_big_quiet_want; go_big_quiet_op; first | go_big_quiet_on | (refine ⟨_, fun _ _ => rfl, ?_⟩; go_big_quiet_on))
  refine wpQuiet_nil ?_
  intro w8 h8
  clear c0 c2 c3 hc3 hb3l hg1 ck hrv
  (try replace r1 := Lib.hid (rowB r1.out h8 (Array.getElem?_eq_some_iff.1 r1.out).1))
  (try replace rp := Lib.hid (rp.out.mono h8))
  (try replace x3 := Lib.hid (x3.out.mono h8))
  replace hS0 := Lib.hid (hS0.out.trans (Below.mono h8 hS0.out.size))
  clear h8
  obtain ⟨hrv, c3, ck⟩ := rangeV r1.out
  have hrv := Lib.hid hrv
  go_upto_region 16 with (refine wpList_cut rfl 22 _ _ rfl (by kernel_rfl) (by kernel_rfl) _ L3 _ _ _ rfl x3.out hM3.out (U3 + 1) rfl u3.out L7 M5 d5.out hM5.out ?_; intro xax5 xcx5 x50; have x5 := Lib.hid x50; clear x50)
  clear x3
  go_upto_region 26 with fail
  have hr1w := Lib.hid (Array.getElem?_eq_some_iff.1 r1.out).1
  have hK := Lib.hid (fun (wz : World) (h : Below w8.heap.size w8 wz) => (cellsO (rowB r1.out h hr1w.out)).2.2.2.2.2)
  have hB := Lib.hid (show Below w8.heap.size w8 w8.drew from (Below.refl _ _).drew)
  clear c3 ck hrv
  obtain ⟨c9, c10⟩ := hK.out w8 (Below.refl _ _)
  obtain ⟨N9, hN9⟩ : ∃ N, (numB T.e ++ numB T.s).length = N := ⟨_, rfl⟩
  have hN9 := Lib.hid hN9
  go_region_held3 (fun wz => wz.cell? ⟨w.heap.size, 9, none⟩ = some (.int .u32 (T.e : Int)) ∧ wz.cell? ⟨w.heap.size, 10, none⟩ = some (.int .u32 (T.s : Int))) (first | (exact hK.out _ hB.out) | go_keep)
    (first
      | (go_at_call 35; (with_reducible refine (hne.out _).mono ?_); rintro e9 w4 ⟨z4, rfl, q1, q2⟩; (try replace hr2 := Lib.hid (hr2.out.kept q2)); have hr1 := Lib.hid (q1.mono hB.out.size); replace hB := Lib.hid (hB.out.trans (Below.mono q2 hB.out.size)); obtain ⟨ahr1, chr1, hz4⟩ := hr1.out.rd.slice; rw [numB_length] at hz4; subst hz4; clear q1 q2)
      | (go_at_call 35; (with_reducible refine (hns.out _).mono ?_); rintro e9 w4 ⟨z4, rfl, q1, q2⟩; (try replace hr1 := Lib.hid (hr1.out.kept q2)); have hr2 := Lib.hid (q1.mono hB.out.size); replace hB := Lib.hid (hB.out.trans (Below.mono q2 hB.out.size)); obtain ⟨ahr2, chr2, hz4⟩ := hr2.out.rd.slice; rw [numB_length] at hz4; subst hz4; clear q1 q2)
      | (refine step_appendB (by rfl) _ _ 22 (by rfl) w8.heap.size 5 Tryz.underlying22 (by kernel_rfl) (.slice ahr1 (numL T.e) chr1) (by rfl) (numB T.e) hr1.out _ (by rfl) (numB T.s) hr2.out.rd (by rw [numB_length, numB_length]; have h1 := le.out; have h2 := ls.out; omega) hB.out.size ?_; intro v5 w5 h1 h2; replace hB := Lib.hid (hB.out.trans (hr1.out.below h2 hB.out.size)); have hO := Lib.hid h1.rd; obtain ⟨pa5, pc5, hz5⟩ := hO.out.slice; rw [hN9.out] at hz5; subst hz5; clear h1 h2)
      | (go_at_call 10; (with_reducible refine (f9.out _ _ _ (x5.out.mono hB.out) hO.out).mono ?_); rintro e9 w4 ⟨rfl, q2⟩; replace hB := Lib.hid (hB.out.trans (Below.mono q2 hB.out.size)); clear q2))
  all_goals
    clear c9 c10
    go_wp2
    go_ret
    exact ⟨rfl, hS0.out.trans (hB.out.mono hS0.out.size)⟩
end Go.Proofs.YtfaojjleapenaabGreatDoor.wir.val.top
namespace Go.Proofs.YtfaojjleapenaabGreatDoor.wir.val.top
open Go.RowKit Go.YtfaojjleapenaabGreatDoor
set_option linter.unusedVariables false
set_option maxHeartbeats 16000000 in
set_option maxRecDepth 100000 in
theorem read08_B (T : Od) (fT : T.Fit) (hF : T.F.length = 32 * T.n) (hc : chkO T = 0) (hk : T.k = 2 ∨ T.k = 3) (hks : T.key.size ≤ 20) (pv bv : Value) (w : World) (hp : RdI w pv T.n T.F) (hr : RdB w bv (encO T)) :
    Calls Tryz.prog 27 #[.agg (T.c pv), bv] w fun e w' => e = .returned (.bool true) ∧ Below w.heap.size w w' := by
  obtain ⟨n4, hR, hA⟩ := chk_zero hc
  have hb := encO_bytes T fT n4 hA
  have hl := encO_short T fT n4 hF hA
  obtain ⟨L7, h7⟩ : ∃ L, numB T.e ++ numB T.s = L := ⟨_, rfl⟩
  obtain ⟨L5, h5⟩ : ∃ L, textB (sI T.key) ++ L7 = L := ⟨_, rfl⟩
  obtain ⟨L4, h4⟩ : ∃ L, [T.k] ++ L5 = L := ⟨_, rfl⟩
  obtain ⟨L3, h3⟩ : ∃ L, numB T.st ++ L4 = L := ⟨_, rfl⟩
  obtain ⟨L2, h2⟩ : ∃ L, (numB T.n ++ T.F) ++ L3 = L := ⟨_, rfl⟩
  obtain ⟨L1, h1⟩ : ∃ L, numB T.au ++ L2 = L := ⟨_, rfl⟩
  have h0 : encO T = [111] ++ L1 := by
    have h := encO_parts T []
    simp only [List.append_nil] at h
    rw [h, ← h1, ← h2, ← h3, ← h4, ← h5, ← h7]
    unfold Ac.B
    rcases hk with hk | hk <;> simp [hk]
  have b1 : Bytes L1 := bytes_tail (a := [111]) (by rw [← h0]; exact hb)
  have b2 : Bytes L2 := bytes_tail (a := numB T.au) (by rw [h1]; exact b1)
  have b3 : Bytes L3 := bytes_tail (a := numB T.n ++ T.F) (by rw [h2]; exact b2)
  have b4 : Bytes L4 := bytes_tail (a := numB T.st) (by rw [h3]; exact b3)
  have b5 : Bytes L5 := bytes_tail (a := [T.k]) (by rw [h4]; exact b4)
  have d1 : (encO T).drop 1 = L1 := by rw [h0]; rfl
  have d2 : L1.drop (numL T.au) = L2 := by rw [← h1, List.drop_left' (numB_length _)]
  have d3 : L2.drop (numL T.n + T.n * 32) = L3 := by rw [← h2, List.drop_left' (by rw [List.length_append, numB_length, hF]; omega)]
  have d5 : L3.drop (numL T.st + 1) = L5 := by rw [← h3, ← h4, ← List.append_assoc, List.drop_left' (by rw [List.length_append, numB_length]; rfl)]
  have e0 : (encO T).length = L1.length + 1 := by rw [h0]; simp; try omega
  have e1 : L1.length = numL T.au + L2.length := by rw [← h1, List.length_append, numB_length]
  have e2 : L2.length = (numL T.n + T.n * 32) + L3.length := by rw [← h2, List.length_append, List.length_append, numB_length, hF]; omega
  have e3 : L3.length = numL T.st + 1 + L5.length := by rw [← h3, ← h4, List.length_append, numB_length, List.length_append]; simp; omega
  have k0 : ith (encO T) 0 = 111 := by rw [h0]; rfl
  have k3 : ith L3 (numL T.st) = T.k := by
    rw [← h3, ← h4]
    unfold ith
    rw [List.getElem?_append_right (by rw [numB_length]; exact Nat.le_refl _), numB_length, Nat.sub_self]
    rfl
  obtain ⟨c5, d6, t5⟩ := readC_key hks L7
  rw [h5] at c5 d6 t5
  have e5 : L5.length = (numL T.key.size + T.key.size) + L7.length := by rw [← h5, List.length_append, textB_length, sI_length]
  have fe := fT.e; have fs := fT.s; have fau := fT.au; have fst := fT.st
  have e7 : L7.length = numL T.e + numL T.s := by rw [← h7, List.length_append, numB_length, numB_length]
  have f1 := Lib.hid (fun (wz : World) (v : Value) (h : RdB wz v L1) => readNumber_some L1 v wz h b1 T.au (numL T.au) (by rw [← h1]; exact readF_num _ (by omega) _))
  have f2 := Lib.hid (fun (wz : World) (v : Value) (h : RdB wz v L2) => (show Calls Tryz.prog 47 #[v, .int .i64 4] wz fun e w' => ∃ g, e = .returned (.tuple #[.slice (some ⟨g, 0, none⟩) T.n T.n, .int .i64 ((numL T.n + T.n * 32 : Nat) : Int), .int .i64 0]) ∧ RdI w' (.slice (some ⟨g, 0, none⟩) T.n T.n) T.n T.F ∧ Below wz.heap.size wz w' from by
    have hq := readIDs_ok L2 v 4 (by omega) (by omega) wz h b2 (by omega) T.n (numL T.n) (by rw [← h2]; exact readC_ids n4 hF L3)
    have ht : (L2.drop (numL T.n)).take (T.n * 32) = T.F := by rw [← h2, List.append_assoc, List.drop_left' (numB_length _), List.take_left' (by rw [hF]; omega)]
    rw [ht] at hq
    refine hq.mono ?_
    rintro e w' ⟨g1, g2⟩
    rw [if_pos hR] at g2
    exact ⟨_, g2.1, rdI_row g2.2 T.n hF (by omega), g1⟩))
  have f3 := Lib.hid (fun (wz : World) (va vb : Value) (h1 : RdI wz va T.n T.F) (h2 : RdI wz vb T.n T.F) => (sameIDs_any T.n T.n T.F T.F va vb wz (by omega) h1 h2).mono (R' := fun e w' => e = .returned (.bool true) ∧ Below wz.heap.size wz w') (fun e w' ⟨a1, a2⟩ => ⟨by rw [a1, sameF_self], a2.below (Below.refl _ _)⟩))
  have f4 := Lib.hid (fun (wz : World) (v : Value) (h : RdB wz v L3) => readNumber_some L3 v wz h b3 T.st (numL T.st) (by rw [← h3]; exact readF_num _ (by omega) _))
  have f5 := Lib.hid (fun (wz : World) (v : Value) (h : RdB wz v L5) => (show Calls Tryz.prog 48 #[v, .int .i64 20] wz fun e w' => ∃ g, e = .returned (.tuple #[.slice (some ⟨g, 0, none⟩) T.key.size T.key.size, .int .i64 ((numL T.key.size + T.key.size : Nat) : Int), .int .i64 0]) ∧ RdB w' (.slice (some ⟨g, 0, none⟩) T.key.size T.key.size) (sI T.key) ∧ Below wz.heap.size wz w' from by
    refine (readBytes_ok L5 v 20 (by omega) (by omega) wz h b5 (by omega) T.key.size (numL T.key.size) c5).mono ?_
    rintro e w' ⟨g1, g2, g3⟩
    rw [t5] at g2
    exact ⟨_, g1, rdB_row g2 T.key.size (sI_length _) (by unfold maxLen; omega), g3⟩))
  have hts := Lib.hid (fun (wx : World) (v : Value) (h : RdB wx v (sI T.key)) => (run_toS (P := Tryz.prog) h 22 9 5 Tryz.underlying22 Tryz.underlying5 Tryz.underlying9).trans (by rw [toS_sI]))
  have hne := Lib.hid (fun (wz : World) => wnum_own T.e (by omega) wz)
  have hns := Lib.hid (fun (wz : World) => wnum_own T.s (by omega) wz)
  have f9 := Lib.hid (fun (wz : World) (va vb : Value) (h1 : RdB wz va L7) (h2 : RdB wz vb (numB T.e ++ numB T.s)) => same_true va vb L7 wz (by omega) h1 (by rw [← h7]; exact h2))
  have le := Lib.hid (numL_le T.e (by omega))
  have ls := Lib.hid (numL_le T.s (by omega))
  have hwe := u64_nat T.e (by omega)
  have hws := u64_nat T.s (by omega)
  have hwa := u64_nat T.au (by omega)
  obtain ⟨pa, pc, rfl⟩ := hp.slice
  obtain ⟨ba, bc, rfl⟩ := hr.slice
  obtain ⟨b0, o0, hba, hb0l, hc0⟩ := rdB_nth hr 0 (by omega)
  rw [k0, Nat.add_zero] at hc0
  subst hba
  obtain ⟨W, hW⟩ : ∃ W, W = w.alloc (.cells (T.c (.slice pa T.n pc)) 41) := ⟨_, rfl⟩
  have hr0 := heap_alloc_new w (.cells (T.c (.slice pa T.n pc)) 41)
  have hbel := (Below.refl w.heap.size w).alloc (Nat.le_refl _) (.cells (T.c (.slice pa T.n pc)) 41)
  rw [← hW] at hr0 hbel
  have r1 := Lib.hid hr0
  have hS0 := Lib.hid hbel
  have rp := Lib.hid (hp.mono hbel)
  have x0 := Lib.hid (hr.mono hbel)
  have hcW : W.cell? ⟨b0, o0, none⟩ = some (.int .u8 111) := (hbel.cell (p := (⟨b0, o0, none⟩ : Addr)) hb0l).trans hc0
  obtain ⟨M0, hM0⟩ : ∃ M, (encO T).length = M := ⟨_, rfl⟩
  obtain ⟨M1, hM1⟩ : ∃ M, L1.length = M := ⟨_, rfl⟩
  obtain ⟨M2, hM2⟩ : ∃ M, L2.length = M := ⟨_, rfl⟩
  obtain ⟨M3, hM3⟩ : ∃ M, L3.length = M := ⟨_, rfl⟩
  obtain ⟨M5, hM5⟩ : ∃ M, L5.length = M := ⟨_, rfl⟩
  obtain ⟨M7, hM7⟩ : ∃ M, L7.length = M := ⟨_, rfl⟩
  obtain ⟨U1, hU1⟩ : ∃ U, numL T.au = U := ⟨_, rfl⟩
  obtain ⟨U2, hU2⟩ : ∃ U, numL T.n + T.n * 32 = U := ⟨_, rfl⟩
  obtain ⟨U3, hU3⟩ : ∃ U, numL T.st = U := ⟨_, rfl⟩
  obtain ⟨U5, hU5⟩ : ∃ U, numL T.key.size + T.key.size = U := ⟨_, rfl⟩
  rw [hM0, hM1] at e0; rw [hM1, hM2, hU1] at e1; rw [hM2, hM3, hU2] at e2; rw [hM3, hM5, hU3] at e3; rw [hM7] at e7
  rw [hM5, hM7, hU5] at e5
  rw [hM0] at hl x0 ⊢
  rw [hU1] at f1 d2; rw [hU2] at f2 d3; rw [hU3] at f4 d5 k3
  rw [hU5] at f5 d6
  have hM7p : 1 ≤ M7 := by have := numL_pos T.e; omega
  have i0 : ((M0 : Int) == 0) = false := by simp only [beq_eq_false_iff_ne, ne_eq]; omega
  have i1 : ¬ (M1 : Int) < (U1 : Int) := by omega
  have j1 : ¬ (M2 : Int) < (U1 : Int) ∨ True := .inr trivial
  have i2 : ¬ (M2 : Int) < (U2 : Int) := by omega
  have i3 : decide ((M3 : Int) ≤ (U3 : Int)) = false := by simp; omega
  have i3c : decide (M3 ≤ U3) = false := by simp; omega
  have i3d : ¬ (M3 : Int) ≤ (U3 : Int) := by omega
  have i3e : ¬ M3 ≤ U3 := by omega
  have i3b : (U3 : Int) < (M3 : Int) := by omega
  have w3 : IntKind.i64.wrap ((U3 : Int) + 1) = ((U3 + 1 : Nat) : Int) := by rw [IntWalk.i64_in _ (by omega)]; omega
  have i5 : ¬ (M5 : Int) < (U5 : Int) := by omega
  have hM0 := Lib.hid hM0
  have hM1 := Lib.hid hM1
  have hM2 := Lib.hid hM2
  have hM3 := Lib.hid hM3
  have hM5 := Lib.hid hM5
  have hM7 := Lib.hid hM7
  have u0 := Lib.hid (show 1 ≤ M0 by omega); have u1 := Lib.hid (show U1 ≤ M1 by omega); have u2 := Lib.hid (show U2 ≤ M2 by omega); have u3 := Lib.hid (show U3 + 1 ≤ M3 by omega)
  have u5 := Lib.hid (show U5 ≤ M5 by omega)
  have u3b := Lib.hid (show U3 < M3 by omega)
  have d1 := Lib.hid d1; have d2 := Lib.hid d2; have d3 := Lib.hid d3; have d5 := Lib.hid d5; have k3 := Lib.hid k3
  have d6 := Lib.hid d6
  have t1 : (T.k != 1) = true := by rcases hk with hk | hk <;> rw [hk] <;> rfl
  have t4 : (T.k == 4) = false := by rcases hk with hk | hk <;> rw [hk] <;> rfl
  clear hr0 hbel hp hr hb hl n4 hR hA h0 h1 h2 h3 h4 h7 b1 b2 b3 b4 b5 e0 e1 e2 e3 e7 fe fs fau fst k0 hU1 hU2 hU3 hM7p fT hF hc hk hc0 hb0l e5 h5 c5 t5 hU5 hks
  generalize encO T = L0 at *
  go_enter Tryz.func27, Tryz.ntmps27
  go_upto_region 1 with fail
  rw [← hW]
  clear hW
  obtain ⟨c0, c1, c2, _, _, _, _⟩ := cellsO r1.out
  go_upto_region 4 with (refine wpList_cut rfl 22 _ _ rfl (by kernel_rfl) (by kernel_rfl) _ L0 _ _ _ rfl x0.out hM0.out (1) rfl u0.out L1 M1 d1.out hM1.out ?_; intro xax1 xcx1 x10; have x1 := Lib.hid x10; clear x10)
  clear x0 hcW
  go_upto_region 8 with (first
    | (go_at_call 46; (with_reducible refine (f1.out _ _ x1.out).mono ?_); rintro e9 w4 ⟨rfl, rfl⟩)
    | (refine wpList_cut rfl 22 _ _ rfl (by kernel_rfl) (by kernel_rfl) _ L1 _ _ _ rfl x1.out hM1.out (U1) rfl u1.out L2 M2 d2.out hM2.out ?_; intro xax2 xcx2 x20; have x2 := Lib.hid x20; clear x20))
  go_upto_region 9 with (go_at_call 47; (with_reducible refine (f2.out _ _ x2.out).mono ?_); rintro e9 w4 ⟨g5, rfl, q1, q2⟩; (try replace r1 := Lib.hid (rowB r1.out q2 (Array.getElem?_eq_some_iff.1 r1.out).1)); (try replace rp := Lib.hid (rp.out.mono q2)); (try replace x2 := Lib.hid (x2.out.mono q2)); replace hS0 := Lib.hid (hS0.out.trans (Below.mono q2 hS0.out.size)); have rq := Lib.hid q1; clear q1; clear q2)
  clear c0 c1 c2
  obtain ⟨c0, c1, c2, _, _, _, _⟩ := cellsO r1.out
  go_upto_region 12 with (first
    | (go_at_call 32; (with_reducible refine (f3.out _ _ _ rq.out rp.out).mono ?_); rintro e9 w4 ⟨rfl, q2⟩; (try replace r1 := Lib.hid (rowB r1.out q2 (Array.getElem?_eq_some_iff.1 r1.out).1)); (try replace rp := Lib.hid (rp.out.mono q2)); (try replace x2 := Lib.hid (x2.out.mono q2)); (try replace rq := Lib.hid (rq.out.mono q2)); replace hS0 := Lib.hid (hS0.out.trans (Below.mono q2 hS0.out.size)); clear q2)
    | (refine wpList_cut rfl 22 _ _ rfl (by kernel_rfl) (by kernel_rfl) _ L2 _ _ _ rfl x2.out hM2.out (U2) rfl u2.out L3 M3 d3.out hM3.out ?_; intro xax3 xcx3 x30; have x3 := Lib.hid x30; clear x30))
  clear c0 c1 c2
  obtain ⟨c0, _, c2, _, _, _, _⟩ := cellsO r1.out
  obtain ⟨hrv, c3, ck⟩ := rangeV r1.out
  have hrv := Lib.hid hrv
  go_upto_region 13 with (go_at_call 46; (with_reducible refine (f4.out _ _ x3.out).mono ?_); rintro e9 w4 ⟨rfl, rfl⟩)
  obtain ⟨b3, o3, hb3, hb3l, hc3⟩ := rdB_nth x3.out U3 (by rw [hM3.out]; exact u3b.out)
  rw [k3.out] at hc3
  subst hb3
  have hg1 := Lib.hid (Array.getElem?_eq_some_iff.1 r1.out).1
  have hc3 := Lib.hid hc3; have c3 := Lib.hid c3; have c2 := Lib.hid c2; have hb3l := Lib.hid hb3l
  refine wp_region_quiet (C := fun w' => Below w4.heap.size w4 w') (by kernel_rfl) (by kernel_rfl) ((Below.refl _ _).drew) ?_
  simp only []
  iterate 5 (go_big_quiet_want; go_big_quiet_op; first | go_big_quiet_on | (refine ⟨_, fun _ _ => rfl, ?_⟩; go_big_quiet_on))
  refine wpq (.int .u64 (T.st : Int)) rfl (quiet_cell 33 _ rfl w.heap.size (2) rfl (.int .u64 (T.st : Int)) (fun w9 h9 => (h9.cell (p := (⟨w.heap.size, 2, none⟩ : Addr)) hg1.out).trans c2.out) Tryz.isAgg33) rfl (fun K hK => ?_); go_simp; refine hK _ ?_; clear hK K
  iterate 12 (go_big_quiet_want; go_big_quiet_op; first | go_big_quiet_on | (refine ⟨_, fun _ _ => rfl, ?_⟩; go_big_quiet_on))
  refine wpq (.int .u8 T.k) rfl (quiet_cell 5 _ rfl b3 (o3 + U3) rfl (.int .u8 T.k) (fun w9 h9 => (h9.cell (p := (⟨b3, o3 + U3, none⟩ : Addr)) hb3l.out).trans hc3.out) Tryz.isAgg5) rfl (fun K hK => ?_); go_simp; refine hK _ ?_; clear hK K
  iterate 2 (go_big_quiet_want; go_big_quiet_op; first | go_big_quiet_on | (refine ⟨_, fun _ _ => rfl, ?_⟩; go_big_quiet_on))
  refine wpq (.int .u8 T.k) rfl (quiet_cell 5 _ rfl w.heap.size (3) rfl (.int .u8 T.k) (fun w9 h9 => (h9.cell (p := (⟨w.heap.size, 3, none⟩ : Addr)) hg1.out).trans c3.out) Tryz.isAgg5) rfl (fun K hK => ?_); go_simp; refine hK _ ?_; clear hK K
  iterate 2 (go_big_quiet_want; go_big_quiet_op; first | go_big_quiet_on | (refine ⟨_, fun _ _ => rfl, ?_⟩; go_big_quiet_on))
  refine wpQuiet_nil ?_
  intro w8 h8
  clear c0 c2 c3 hc3 hb3l hg1 ck hrv
  (try replace r1 := Lib.hid (rowB r1.out h8 (Array.getElem?_eq_some_iff.1 r1.out).1))
  (try replace rp := Lib.hid (rp.out.mono h8))
  (try replace x3 := Lib.hid (x3.out.mono h8))
  replace hS0 := Lib.hid (hS0.out.trans (Below.mono h8 hS0.out.size))
  clear h8
  obtain ⟨hrv, c3, ck⟩ := rangeV r1.out
  have hrv := Lib.hid hrv
  go_upto_region 16 with (refine wpList_cut rfl 22 _ _ rfl (by kernel_rfl) (by kernel_rfl) _ L3 _ _ _ rfl x3.out hM3.out (U3 + 1) rfl u3.out L5 M5 d5.out hM5.out ?_; intro xax5 xcx5 x50; have x5 := Lib.hid x50; clear x50)
  clear x3
  go_upto_region 18 with (go_at_call 48; (with_reducible refine (f5.out _ _ x5.out).mono ?_); rintro e9 w7 ⟨g6, rfl, q1, q2⟩; (try replace r1 := Lib.hid (rowB r1.out q2 (Array.getElem?_eq_some_iff.1 r1.out).1)); (try replace rp := Lib.hid (rp.out.mono q2)); (try replace x5 := Lib.hid (x5.out.mono q2)); replace hS0 := Lib.hid (hS0.out.trans (Below.mono q2 hS0.out.size)); have rk := Lib.hid q1; clear q1; clear q2)
  clear c3 ck hrv
  obtain ⟨hrv, c3, ck⟩ := rangeV r1.out
  have hrv := Lib.hid hrv
  have hts18 := hts.out _ _ rk.out
  go_upto_region 21 with (refine wpList_cut rfl 22 _ _ rfl (by kernel_rfl) (by kernel_rfl) _ L5 _ _ _ rfl x5.out hM5.out (U5) rfl u5.out L7 M7 d6.out hM7.out ?_; intro xax6 xcx6 x60; have x6 := Lib.hid x60; clear x60)
  clear hts18 rk x5
  go_upto_region 26 with fail
  have hr1w := Lib.hid (Array.getElem?_eq_some_iff.1 r1.out).1
  have hK := Lib.hid (fun (wz : World) (h : Below w7.heap.size w7 wz) => (cellsO (rowB r1.out h hr1w.out)).2.2.2.2.2)
  have hB := Lib.hid (show Below w7.heap.size w7 w7.drew from (Below.refl _ _).drew)
  clear c3 ck hrv
  obtain ⟨c9, c10⟩ := hK.out w7 (Below.refl _ _)
  obtain ⟨N9, hN9⟩ : ∃ N, (numB T.e ++ numB T.s).length = N := ⟨_, rfl⟩
  have hN9 := Lib.hid hN9
  go_region_held3 (fun wz => wz.cell? ⟨w.heap.size, 9, none⟩ = some (.int .u32 (T.e : Int)) ∧ wz.cell? ⟨w.heap.size, 10, none⟩ = some (.int .u32 (T.s : Int))) (first | (exact hK.out _ hB.out) | go_keep)
    (first
      | (go_at_call 35; (with_reducible refine (hne.out _).mono ?_); rintro e9 w4 ⟨z4, rfl, q1, q2⟩; (try replace hr2 := Lib.hid (hr2.out.kept q2)); have hr1 := Lib.hid (q1.mono hB.out.size); replace hB := Lib.hid (hB.out.trans (Below.mono q2 hB.out.size)); obtain ⟨ahr1, chr1, hz4⟩ := hr1.out.rd.slice; rw [numB_length] at hz4; subst hz4; clear q1 q2)
      | (go_at_call 35; (with_reducible refine (hns.out _).mono ?_); rintro e9 w4 ⟨z4, rfl, q1, q2⟩; (try replace hr1 := Lib.hid (hr1.out.kept q2)); have hr2 := Lib.hid (q1.mono hB.out.size); replace hB := Lib.hid (hB.out.trans (Below.mono q2 hB.out.size)); obtain ⟨ahr2, chr2, hz4⟩ := hr2.out.rd.slice; rw [numB_length] at hz4; subst hz4; clear q1 q2)
      | (refine step_appendB (by rfl) _ _ 22 (by rfl) w7.heap.size 5 Tryz.underlying22 (by kernel_rfl) (.slice ahr1 (numL T.e) chr1) (by rfl) (numB T.e) hr1.out _ (by rfl) (numB T.s) hr2.out.rd (by rw [numB_length, numB_length]; have h1 := le.out; have h2 := ls.out; omega) hB.out.size ?_; intro v5 w5 h1 h2; replace hB := Lib.hid (hB.out.trans (hr1.out.below h2 hB.out.size)); have hO := Lib.hid h1.rd; obtain ⟨pa5, pc5, hz5⟩ := hO.out.slice; rw [hN9.out] at hz5; subst hz5; clear h1 h2)
      | (go_at_call 10; (with_reducible refine (f9.out _ _ _ (x6.out.mono hB.out) hO.out).mono ?_); rintro e9 w4 ⟨rfl, q2⟩; replace hB := Lib.hid (hB.out.trans (Below.mono q2 hB.out.size)); clear q2))
  all_goals
    clear c9 c10
    go_wp2
    go_ret
    exact ⟨rfl, hS0.out.trans (hB.out.mono hS0.out.size)⟩
end Go.Proofs.YtfaojjleapenaabGreatDoor.wir.val.top
namespace Go.Proofs.YtfaojjleapenaabGreatDoor.wir.val.top
open Go.RowKit Go.YtfaojjleapenaabGreatDoor
set_option linter.unusedVariables false
set_option maxHeartbeats 16000000 in
set_option maxRecDepth 100000 in
theorem read08_C (T : Od) (fT : T.Fit) (hF : T.F.length = 32 * T.n) (hc : chkO T = 0) (hk : T.k = 4) (hks : T.key.size ≤ 20) (hvo : T.v.ok = true) (pv bv : Value) (w : World) (hp : RdI w pv T.n T.F) (hr : RdB w bv (encO T)) :
    Calls Tryz.prog 27 #[.agg (T.c pv), bv] w fun e w' => e = .returned (.bool true) ∧ Below w.heap.size w w' := by
  obtain ⟨n4, hR, hA⟩ := chk_zero hc
  have hb := encO_bytes T fT n4 hA
  have hl := encO_short T fT n4 hF hA
  obtain ⟨L7, h7⟩ : ∃ L, numB T.e ++ numB T.s = L := ⟨_, rfl⟩
  obtain ⟨L6, h6⟩ : ∃ L, encB T.v.k T.v.n T.v.b T.v.s ++ L7 = L := ⟨_, rfl⟩
  obtain ⟨L5, h5⟩ : ∃ L, textB (sI T.key) ++ L6 = L := ⟨_, rfl⟩
  obtain ⟨L4, h4⟩ : ∃ L, [T.k] ++ L5 = L := ⟨_, rfl⟩
  obtain ⟨L3, h3⟩ : ∃ L, numB T.st ++ L4 = L := ⟨_, rfl⟩
  obtain ⟨L2, h2⟩ : ∃ L, (numB T.n ++ T.F) ++ L3 = L := ⟨_, rfl⟩
  obtain ⟨L1, h1⟩ : ∃ L, numB T.au ++ L2 = L := ⟨_, rfl⟩
  have h0 : encO T = [111] ++ L1 := by
    have h := encO_parts T []
    simp only [List.append_nil] at h
    rw [h, ← h1, ← h2, ← h3, ← h4, ← h5, ← h6, ← h7]
    unfold Ac.B
    simp [hk]
  have b1 : Bytes L1 := bytes_tail (a := [111]) (by rw [← h0]; exact hb)
  have b2 : Bytes L2 := bytes_tail (a := numB T.au) (by rw [h1]; exact b1)
  have b3 : Bytes L3 := bytes_tail (a := numB T.n ++ T.F) (by rw [h2]; exact b2)
  have b4 : Bytes L4 := bytes_tail (a := numB T.st) (by rw [h3]; exact b3)
  have b5 : Bytes L5 := bytes_tail (a := [T.k]) (by rw [h4]; exact b4)
  have b6 : Bytes L6 := bytes_tail (a := textB (sI T.key)) (by rw [h5]; exact b5)
  have d1 : (encO T).drop 1 = L1 := by rw [h0]; rfl
  have d2 : L1.drop (numL T.au) = L2 := by rw [← h1, List.drop_left' (numB_length _)]
  have d3 : L2.drop (numL T.n + T.n * 32) = L3 := by rw [← h2, List.drop_left' (by rw [List.length_append, numB_length, hF]; omega)]
  have d5 : L3.drop (numL T.st + 1) = L5 := by rw [← h3, ← h4, ← List.append_assoc, List.drop_left' (by rw [List.length_append, numB_length]; rfl)]
  have e0 : (encO T).length = L1.length + 1 := by rw [h0]; simp; try omega
  have e1 : L1.length = numL T.au + L2.length := by rw [← h1, List.length_append, numB_length]
  have e2 : L2.length = (numL T.n + T.n * 32) + L3.length := by rw [← h2, List.length_append, List.length_append, numB_length, hF]; omega
  have e3 : L3.length = numL T.st + 1 + L5.length := by rw [← h3, ← h4, List.length_append, numB_length, List.length_append]; simp; omega
  have k0 : ith (encO T) 0 = 111 := by rw [h0]; rfl
  have k3 : ith L3 (numL T.st) = T.k := by
    rw [← h3, ← h4]
    unfold ith
    rw [List.getElem?_append_right (by rw [numB_length]; exact Nat.le_refl _), numB_length, Nat.sub_self]
    rfl
  obtain ⟨c5, d6, t5⟩ := readC_key hks L6
  rw [h5] at c5 d6 t5
  have e5 : L5.length = (numL T.key.size + T.key.size) + L6.length := by rw [← h5, List.length_append, textB_length, sI_length]
  have hdc : decF L6 = some (T.v, (encB T.v.k T.v.n T.v.b T.v.s).length) := by rw [← h6]; exact decF_enc _ _ _ _ fT.v hvo L7
  have d7 : L6.drop (encB T.v.k T.v.n T.v.b T.v.s).length = L7 := by rw [← h6]; exact List.drop_left' rfl
  have e6 : L6.length = (encB T.v.k T.v.n T.v.b T.v.s).length + L7.length := by rw [← h6, List.length_append]
  have fe := fT.e; have fs := fT.s; have fau := fT.au; have fst := fT.st
  have e7 : L7.length = numL T.e + numL T.s := by rw [← h7, List.length_append, numB_length, numB_length]
  have f1 := Lib.hid (fun (wz : World) (v : Value) (h : RdB wz v L1) => readNumber_some L1 v wz h b1 T.au (numL T.au) (by rw [← h1]; exact readF_num _ (by omega) _))
  have f2 := Lib.hid (fun (wz : World) (v : Value) (h : RdB wz v L2) => (show Calls Tryz.prog 47 #[v, .int .i64 4] wz fun e w' => ∃ g, e = .returned (.tuple #[.slice (some ⟨g, 0, none⟩) T.n T.n, .int .i64 ((numL T.n + T.n * 32 : Nat) : Int), .int .i64 0]) ∧ RdI w' (.slice (some ⟨g, 0, none⟩) T.n T.n) T.n T.F ∧ Below wz.heap.size wz w' from by
    have hq := readIDs_ok L2 v 4 (by omega) (by omega) wz h b2 (by omega) T.n (numL T.n) (by rw [← h2]; exact readC_ids n4 hF L3)
    have ht : (L2.drop (numL T.n)).take (T.n * 32) = T.F := by rw [← h2, List.append_assoc, List.drop_left' (numB_length _), List.take_left' (by rw [hF]; omega)]
    rw [ht] at hq
    refine hq.mono ?_
    rintro e w' ⟨g1, g2⟩
    rw [if_pos hR] at g2
    exact ⟨_, g2.1, rdI_row g2.2 T.n hF (by omega), g1⟩))
  have f3 := Lib.hid (fun (wz : World) (va vb : Value) (h1 : RdI wz va T.n T.F) (h2 : RdI wz vb T.n T.F) => (sameIDs_any T.n T.n T.F T.F va vb wz (by omega) h1 h2).mono (R' := fun e w' => e = .returned (.bool true) ∧ Below wz.heap.size wz w') (fun e w' ⟨a1, a2⟩ => ⟨by rw [a1, sameF_self], a2.below (Below.refl _ _)⟩))
  have f4 := Lib.hid (fun (wz : World) (v : Value) (h : RdB wz v L3) => readNumber_some L3 v wz h b3 T.st (numL T.st) (by rw [← h3]; exact readF_num _ (by omega) _))
  have f5 := Lib.hid (fun (wz : World) (v : Value) (h : RdB wz v L5) => (show Calls Tryz.prog 48 #[v, .int .i64 20] wz fun e w' => ∃ g, e = .returned (.tuple #[.slice (some ⟨g, 0, none⟩) T.key.size T.key.size, .int .i64 ((numL T.key.size + T.key.size : Nat) : Int), .int .i64 0]) ∧ RdB w' (.slice (some ⟨g, 0, none⟩) T.key.size T.key.size) (sI T.key) ∧ Below wz.heap.size wz w' from by
    refine (readBytes_ok L5 v 20 (by omega) (by omega) wz h b5 (by omega) T.key.size (numL T.key.size) c5).mono ?_
    rintro e w' ⟨g1, g2, g3⟩
    rw [t5] at g2
    exact ⟨_, g1, rdB_row g2 T.key.size (sI_length _) (by unfold maxLen; omega), g3⟩))
  have hts := Lib.hid (fun (wx : World) (v : Value) (h : RdB wx v (sI T.key)) => (run_toS (P := Tryz.prog) h 22 9 5 Tryz.underlying22 Tryz.underlying5 Tryz.underlying9).trans (by rw [toS_sI]))
  have f6 := Lib.hid (fun (wz : World) (v : Value) (h : RdB wz v L6) => (show Calls Tryz.prog 49 #[v] wz fun e w' => e = .returned (.tuple #[.agg #[.int .u8 T.v.k, .int .i64 T.v.n, .int .u64 (T.v.b : Int), .string T.v.s], .int .i64 ((encB T.v.k T.v.n T.v.b T.v.s).length : Int), .int .i64 0]) ∧ Below wz.heap.size wz w' from by
    have hq := decode_any L6 v wz h b6 (by omega)
    unfold decR at hq
    rw [hdc] at hq
    exact hq))
  have hnv := Lib.hid (fun wz => neqV8 T.v wz)
  have hne := Lib.hid (fun (wz : World) => wnum_own T.e (by omega) wz)
  have hns := Lib.hid (fun (wz : World) => wnum_own T.s (by omega) wz)
  have f9 := Lib.hid (fun (wz : World) (va vb : Value) (h1 : RdB wz va L7) (h2 : RdB wz vb (numB T.e ++ numB T.s)) => same_true va vb L7 wz (by omega) h1 (by rw [← h7]; exact h2))
  have le := Lib.hid (numL_le T.e (by omega))
  have ls := Lib.hid (numL_le T.s (by omega))
  have hwe := u64_nat T.e (by omega)
  have hws := u64_nat T.s (by omega)
  have hwa := u64_nat T.au (by omega)
  obtain ⟨pa, pc, rfl⟩ := hp.slice
  obtain ⟨ba, bc, rfl⟩ := hr.slice
  obtain ⟨b0, o0, hba, hb0l, hc0⟩ := rdB_nth hr 0 (by omega)
  rw [k0, Nat.add_zero] at hc0
  subst hba
  obtain ⟨W, hW⟩ : ∃ W, W = w.alloc (.cells (T.c (.slice pa T.n pc)) 41) := ⟨_, rfl⟩
  have hr0 := heap_alloc_new w (.cells (T.c (.slice pa T.n pc)) 41)
  have hbel := (Below.refl w.heap.size w).alloc (Nat.le_refl _) (.cells (T.c (.slice pa T.n pc)) 41)
  rw [← hW] at hr0 hbel
  have r1 := Lib.hid hr0
  have hS0 := Lib.hid hbel
  have rp := Lib.hid (hp.mono hbel)
  have x0 := Lib.hid (hr.mono hbel)
  have hcW : W.cell? ⟨b0, o0, none⟩ = some (.int .u8 111) := (hbel.cell (p := (⟨b0, o0, none⟩ : Addr)) hb0l).trans hc0
  obtain ⟨M0, hM0⟩ : ∃ M, (encO T).length = M := ⟨_, rfl⟩
  obtain ⟨M1, hM1⟩ : ∃ M, L1.length = M := ⟨_, rfl⟩
  obtain ⟨M2, hM2⟩ : ∃ M, L2.length = M := ⟨_, rfl⟩
  obtain ⟨M3, hM3⟩ : ∃ M, L3.length = M := ⟨_, rfl⟩
  obtain ⟨M5, hM5⟩ : ∃ M, L5.length = M := ⟨_, rfl⟩
  obtain ⟨M7, hM7⟩ : ∃ M, L7.length = M := ⟨_, rfl⟩
  obtain ⟨M6, hM6⟩ : ∃ M, L6.length = M := ⟨_, rfl⟩
  obtain ⟨U1, hU1⟩ : ∃ U, numL T.au = U := ⟨_, rfl⟩
  obtain ⟨U2, hU2⟩ : ∃ U, numL T.n + T.n * 32 = U := ⟨_, rfl⟩
  obtain ⟨U3, hU3⟩ : ∃ U, numL T.st = U := ⟨_, rfl⟩
  obtain ⟨U5, hU5⟩ : ∃ U, numL T.key.size + T.key.size = U := ⟨_, rfl⟩
  obtain ⟨U6, hU6⟩ : ∃ U, (encB T.v.k T.v.n T.v.b T.v.s).length = U := ⟨_, rfl⟩
  rw [hM0, hM1] at e0; rw [hM1, hM2, hU1] at e1; rw [hM2, hM3, hU2] at e2; rw [hM3, hM5, hU3] at e3; rw [hM7] at e7
  rw [hM5, hM6, hU5] at e5; rw [hM6, hM7, hU6] at e6
  rw [hM0] at hl x0 ⊢
  rw [hU1] at f1 d2; rw [hU2] at f2 d3; rw [hU3] at f4 d5 k3
  rw [hU5] at f5 d6
  rw [hU6] at f6 d7
  have hM7p : 1 ≤ M7 := by have := numL_pos T.e; omega
  have i0 : ((M0 : Int) == 0) = false := by simp only [beq_eq_false_iff_ne, ne_eq]; omega
  have i1 : ¬ (M1 : Int) < (U1 : Int) := by omega
  have j1 : ¬ (M2 : Int) < (U1 : Int) ∨ True := .inr trivial
  have i2 : ¬ (M2 : Int) < (U2 : Int) := by omega
  have i3 : decide ((M3 : Int) ≤ (U3 : Int)) = false := by simp; omega
  have i3c : decide (M3 ≤ U3) = false := by simp; omega
  have i3d : ¬ (M3 : Int) ≤ (U3 : Int) := by omega
  have i3e : ¬ M3 ≤ U3 := by omega
  have i3b : (U3 : Int) < (M3 : Int) := by omega
  have w3 : IntKind.i64.wrap ((U3 : Int) + 1) = ((U3 + 1 : Nat) : Int) := by rw [IntWalk.i64_in _ (by omega)]; omega
  have i5 : ¬ (M5 : Int) < (U5 : Int) := by omega
  have i6 : ¬ (M6 : Int) < (U6 : Int) := by omega
  have hM0 := Lib.hid hM0
  have hM1 := Lib.hid hM1
  have hM2 := Lib.hid hM2
  have hM3 := Lib.hid hM3
  have hM5 := Lib.hid hM5
  have hM7 := Lib.hid hM7
  have hM6 := Lib.hid hM6
  have u0 := Lib.hid (show 1 ≤ M0 by omega); have u1 := Lib.hid (show U1 ≤ M1 by omega); have u2 := Lib.hid (show U2 ≤ M2 by omega); have u3 := Lib.hid (show U3 + 1 ≤ M3 by omega)
  have u5 := Lib.hid (show U5 ≤ M5 by omega)
  have u6 := Lib.hid (show U6 ≤ M6 by omega)
  have u3b := Lib.hid (show U3 < M3 by omega)
  have d1 := Lib.hid d1; have d2 := Lib.hid d2; have d3 := Lib.hid d3; have d5 := Lib.hid d5; have k3 := Lib.hid k3
  have d6 := Lib.hid d6
  have d7 := Lib.hid d7
  have t1 : (T.k != 1) = true := by rw [hk]; rfl
  have t4 : (T.k == 4) = true := by rw [hk]; rfl
  clear hr0 hbel hp hr hb hl n4 hR hA h0 h1 h2 h3 h4 h7 b1 b2 b3 b4 b5 e0 e1 e2 e3 e7 fe fs fau fst k0 hU1 hU2 hU3 hM7p fT hF hc hk hc0 hb0l e5 h5 c5 t5 hU5 hks h6 b6 hdc e6 hU6 hvo
  generalize encO T = L0 at *
  go_enter Tryz.func27, Tryz.ntmps27
  go_upto_region 1 with fail
  rw [← hW]
  clear hW
  obtain ⟨c0, c1, c2, _, _, _, _⟩ := cellsO r1.out
  go_upto_region 4 with (refine wpList_cut rfl 22 _ _ rfl (by kernel_rfl) (by kernel_rfl) _ L0 _ _ _ rfl x0.out hM0.out (1) rfl u0.out L1 M1 d1.out hM1.out ?_; intro xax1 xcx1 x10; have x1 := Lib.hid x10; clear x10)
  clear x0 hcW
  go_upto_region 8 with (first
    | (go_at_call 46; (with_reducible refine (f1.out _ _ x1.out).mono ?_); rintro e9 w4 ⟨rfl, rfl⟩)
    | (refine wpList_cut rfl 22 _ _ rfl (by kernel_rfl) (by kernel_rfl) _ L1 _ _ _ rfl x1.out hM1.out (U1) rfl u1.out L2 M2 d2.out hM2.out ?_; intro xax2 xcx2 x20; have x2 := Lib.hid x20; clear x20))
  go_upto_region 9 with (go_at_call 47; (with_reducible refine (f2.out _ _ x2.out).mono ?_); rintro e9 w4 ⟨g5, rfl, q1, q2⟩; (try replace r1 := Lib.hid (rowB r1.out q2 (Array.getElem?_eq_some_iff.1 r1.out).1)); (try replace rp := Lib.hid (rp.out.mono q2)); (try replace x2 := Lib.hid (x2.out.mono q2)); replace hS0 := Lib.hid (hS0.out.trans (Below.mono q2 hS0.out.size)); have rq := Lib.hid q1; clear q1; clear q2)
  clear c0 c1 c2
  obtain ⟨c0, c1, c2, _, _, _, _⟩ := cellsO r1.out
  go_upto_region 12 with (first
    | (go_at_call 32; (with_reducible refine (f3.out _ _ _ rq.out rp.out).mono ?_); rintro e9 w4 ⟨rfl, q2⟩; (try replace r1 := Lib.hid (rowB r1.out q2 (Array.getElem?_eq_some_iff.1 r1.out).1)); (try replace rp := Lib.hid (rp.out.mono q2)); (try replace x2 := Lib.hid (x2.out.mono q2)); (try replace rq := Lib.hid (rq.out.mono q2)); replace hS0 := Lib.hid (hS0.out.trans (Below.mono q2 hS0.out.size)); clear q2)
    | (refine wpList_cut rfl 22 _ _ rfl (by kernel_rfl) (by kernel_rfl) _ L2 _ _ _ rfl x2.out hM2.out (U2) rfl u2.out L3 M3 d3.out hM3.out ?_; intro xax3 xcx3 x30; have x3 := Lib.hid x30; clear x30))
  clear c0 c1 c2
  obtain ⟨c0, _, c2, _, _, _, _⟩ := cellsO r1.out
  obtain ⟨hrv, c3, ck⟩ := rangeV r1.out
  have hrv := Lib.hid hrv
  go_upto_region 13 with (go_at_call 46; (with_reducible refine (f4.out _ _ x3.out).mono ?_); rintro e9 w4 ⟨rfl, rfl⟩)
  obtain ⟨b3, o3, hb3, hb3l, hc3⟩ := rdB_nth x3.out U3 (by rw [hM3.out]; exact u3b.out)
  rw [k3.out] at hc3
  subst hb3
  have hg1 := Lib.hid (Array.getElem?_eq_some_iff.1 r1.out).1
  have hc3 := Lib.hid hc3; have c3 := Lib.hid c3; have c2 := Lib.hid c2; have hb3l := Lib.hid hb3l
  refine wp_region_quiet (C := fun w' => Below w4.heap.size w4 w') (by kernel_rfl) (by kernel_rfl) ((Below.refl _ _).drew) ?_
  simp only []
  iterate 5 (go_big_quiet_want; go_big_quiet_op; first | go_big_quiet_on | (refine ⟨_, fun _ _ => rfl, ?_⟩; go_big_quiet_on))
  refine wpq (.int .u64 (T.st : Int)) rfl (quiet_cell 33 _ rfl w.heap.size (2) rfl (.int .u64 (T.st : Int)) (fun w9 h9 => (h9.cell (p := (⟨w.heap.size, 2, none⟩ : Addr)) hg1.out).trans c2.out) Tryz.isAgg33) rfl (fun K hK => ?_); go_simp; refine hK _ ?_; clear hK K
  iterate 12 (go_big_quiet_want; go_big_quiet_op; first | go_big_quiet_on | (refine ⟨_, fun _ _ => rfl, ?_⟩; go_big_quiet_on))
  refine wpq (.int .u8 T.k) rfl (quiet_cell 5 _ rfl b3 (o3 + U3) rfl (.int .u8 T.k) (fun w9 h9 => (h9.cell (p := (⟨b3, o3 + U3, none⟩ : Addr)) hb3l.out).trans hc3.out) Tryz.isAgg5) rfl (fun K hK => ?_); go_simp; refine hK _ ?_; clear hK K
  iterate 2 (go_big_quiet_want; go_big_quiet_op; first | go_big_quiet_on | (refine ⟨_, fun _ _ => rfl, ?_⟩; go_big_quiet_on))
  refine wpq (.int .u8 T.k) rfl (quiet_cell 5 _ rfl w.heap.size (3) rfl (.int .u8 T.k) (fun w9 h9 => (h9.cell (p := (⟨w.heap.size, 3, none⟩ : Addr)) hg1.out).trans c3.out) Tryz.isAgg5) rfl (fun K hK => ?_); go_simp; refine hK _ ?_; clear hK K
  iterate 2 (go_big_quiet_want; go_big_quiet_op; first | go_big_quiet_on | (refine ⟨_, fun _ _ => rfl, ?_⟩; go_big_quiet_on))
  refine wpQuiet_nil ?_
  intro w8 h8
  clear c0 c2 c3 hc3 hb3l hg1 ck hrv
  (try replace r1 := Lib.hid (rowB r1.out h8 (Array.getElem?_eq_some_iff.1 r1.out).1))
  (try replace rp := Lib.hid (rp.out.mono h8))
  (try replace x3 := Lib.hid (x3.out.mono h8))
  replace hS0 := Lib.hid (hS0.out.trans (Below.mono h8 hS0.out.size))
  clear h8
  obtain ⟨hrv, c3, ck⟩ := rangeV r1.out
  have hrv := Lib.hid hrv
  go_upto_region 16 with (refine wpList_cut rfl 22 _ _ rfl (by kernel_rfl) (by kernel_rfl) _ L3 _ _ _ rfl x3.out hM3.out (U3 + 1) rfl u3.out L5 M5 d5.out hM5.out ?_; intro xax5 xcx5 x50; have x5 := Lib.hid x50; clear x50)
  clear x3
  go_upto_region 18 with (go_at_call 48; (with_reducible refine (f5.out _ _ x5.out).mono ?_); rintro e9 w7 ⟨g6, rfl, q1, q2⟩; (try replace r1 := Lib.hid (rowB r1.out q2 (Array.getElem?_eq_some_iff.1 r1.out).1)); (try replace rp := Lib.hid (rp.out.mono q2)); (try replace x5 := Lib.hid (x5.out.mono q2)); replace hS0 := Lib.hid (hS0.out.trans (Below.mono q2 hS0.out.size)); have rk := Lib.hid q1; clear q1; clear q2)
  clear c3 ck hrv
  obtain ⟨hrv, c3, ck⟩ := rangeV r1.out
  have hrv := Lib.hid hrv
  have hts18 := hts.out _ _ rk.out
  go_upto_region 21 with (refine wpList_cut rfl 22 _ _ rfl (by kernel_rfl) (by kernel_rfl) _ L5 _ _ _ rfl x5.out hM5.out (U5) rfl u5.out L6 M6 d6.out hM6.out ?_; intro xax6 xcx6 x60; have x6 := Lib.hid x60; clear x60)
  clear hts18 rk x5
  go_upto_region 23 with (first
    | (go_at_call 49; (with_reducible refine (f6.out _ _ x6.out).mono ?_); rintro e9 w4 ⟨rfl, q2⟩; (try replace r1 := Lib.hid (rowB r1.out q2 (Array.getElem?_eq_some_iff.1 r1.out).1)); (try replace rp := Lib.hid (rp.out.mono q2)); (try replace x6 := Lib.hid (x6.out.mono q2)); replace hS0 := Lib.hid (hS0.out.trans (Below.mono q2 hS0.out.size)); clear q2)
    | (refine storeNew _ rfl 35 _ _ rfl #[.int .u8 T.v.k, .int .i64 T.v.n, .int .u64 (T.v.b : Int), .string T.v.s] 35 rfl rfl info_val rfl (val_one _ _ _ _) ?_; intro wx hrx hbx; (try replace r1 := Lib.hid (rowB r1.out hbx (Array.getElem?_eq_some_iff.1 r1.out).1)); (try replace rp := Lib.hid (rp.out.mono hbx)); (try replace x6 := Lib.hid (x6.out.mono hbx)); replace hS0 := Lib.hid (hS0.out.trans (Below.mono hbx hS0.out.size)); have rv := Lib.hid hrx; clear hrx hbx))
  clear c3 ck hrv
  obtain ⟨hrv, c3, ck⟩ := rangeV r1.out
  have hrv := Lib.hid hrv
  go_upto_region 26 with (first
    | (refine wpList_load_row_g rfl 35 _ rfl _ rfl 35 #[.int .u8 T.v.k, .int .i64 T.v.n, .int .u64 (T.v.b : Int), .string T.v.s] (0, 0) _ rv.out Tryz.underlying35 rfl info_val ?_)
    | (refine wpList_midV rfl 35 _ rfl w.heap.size 5 rfl [.int .u8 T.v.k, .int .i64 T.v.n, .int .u64 (T.v.b : Int), .string T.v.s] _ hrv.out Tryz.underlying35 rfl info_val ?_)
    | (refine wpList_neqS rfl 35 _ _ rfl #[.int .u8 T.v.k, .int .i64 T.v.n, .int .u64 (T.v.b : Int), .string T.v.s] #[.int .u8 T.v.k, .int .i64 T.v.n, .int .u64 (T.v.b : Int), .string T.v.s] rfl rfl (by kernel_rfl) false (hnv.out _) ?_)
    | (refine wpList_cut rfl 22 _ _ rfl (by kernel_rfl) (by kernel_rfl) _ L6 _ _ _ rfl x6.out hM6.out (U6) rfl u6.out L7 M7 d7.out hM7.out ?_; intro xax7 xcx7 x70; have x7 := Lib.hid x70; clear x70))
  have hr1w := Lib.hid (Array.getElem?_eq_some_iff.1 r1.out).1
  have hK := Lib.hid (fun (wz : World) (h : Below wx.heap.size wx wz) => (cellsO (rowB r1.out h hr1w.out)).2.2.2.2.2)
  have hB := Lib.hid (show Below wx.heap.size wx wx.drew from (Below.refl _ _).drew)
  clear c3 ck hrv
  obtain ⟨c9, c10⟩ := hK.out wx (Below.refl _ _)
  obtain ⟨N9, hN9⟩ : ∃ N, (numB T.e ++ numB T.s).length = N := ⟨_, rfl⟩
  have hN9 := Lib.hid hN9
  go_region_held3 (fun wz => wz.cell? ⟨w.heap.size, 9, none⟩ = some (.int .u32 (T.e : Int)) ∧ wz.cell? ⟨w.heap.size, 10, none⟩ = some (.int .u32 (T.s : Int))) (first | (exact hK.out _ hB.out) | go_keep)
    (first
      | (go_at_call 35; (with_reducible refine (hne.out _).mono ?_); rintro e9 w4 ⟨z4, rfl, q1, q2⟩; (try replace hr2 := Lib.hid (hr2.out.kept q2)); have hr1 := Lib.hid (q1.mono hB.out.size); replace hB := Lib.hid (hB.out.trans (Below.mono q2 hB.out.size)); obtain ⟨ahr1, chr1, hz4⟩ := hr1.out.rd.slice; rw [numB_length] at hz4; subst hz4; clear q1 q2)
      | (go_at_call 35; (with_reducible refine (hns.out _).mono ?_); rintro e9 w4 ⟨z4, rfl, q1, q2⟩; (try replace hr1 := Lib.hid (hr1.out.kept q2)); have hr2 := Lib.hid (q1.mono hB.out.size); replace hB := Lib.hid (hB.out.trans (Below.mono q2 hB.out.size)); obtain ⟨ahr2, chr2, hz4⟩ := hr2.out.rd.slice; rw [numB_length] at hz4; subst hz4; clear q1 q2)
      | (refine step_appendB (by rfl) _ _ 22 (by rfl) wx.heap.size 5 Tryz.underlying22 (by kernel_rfl) (.slice ahr1 (numL T.e) chr1) (by rfl) (numB T.e) hr1.out _ (by rfl) (numB T.s) hr2.out.rd (by rw [numB_length, numB_length]; have h1 := le.out; have h2 := ls.out; omega) hB.out.size ?_; intro v5 w5 h1 h2; replace hB := Lib.hid (hB.out.trans (hr1.out.below h2 hB.out.size)); have hO := Lib.hid h1.rd; obtain ⟨pa5, pc5, hz5⟩ := hO.out.slice; rw [hN9.out] at hz5; subst hz5; clear h1 h2)
      | (go_at_call 10; (with_reducible refine (f9.out _ _ _ (x7.out.mono hB.out) hO.out).mono ?_); rintro e9 w4 ⟨rfl, q2⟩; replace hB := Lib.hid (hB.out.trans (Below.mono q2 hB.out.size)); clear q2))
  all_goals
    clear c9 c10
    go_wp2
    go_ret
    exact ⟨rfl, hS0.out.trans (hB.out.mono hS0.out.size)⟩
end Go.Proofs.YtfaojjleapenaabGreatDoor.wir.val.top

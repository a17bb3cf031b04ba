/- Layer 6: Decode: contract of package op. Layer 8: verdicts: contracts of package judge. Layer 8: Fine, and the examples of layer 8. -/
import Derived.Test.YtnknkiiikeefgaaGreatDoorK06
import Derived.Test.YtnknkiiikeefgaaGreatDoorK01
namespace Go.Proofs.YtnknkiiikeefgaaGreatDoor.wir.val
open Go.RowKit Go.YtnknkiiikeefgaaGreatDoor
set_option linter.unusedVariables false
def decPost (w : World) (l : List Int) (e : Ending) (w' : World) : Prop :=
  Below w.heap.size w w' ∧ ((decO l = none ∧ e = .returned (.tuple #[.agg (zO.c (.slice none 0 0)), .int .i64 12])) ∨
    ∃ (o : Od) (a : Option Addr) (c : Nat), decO l = some o ∧ e = .returned (.tuple #[.agg (o.c (.slice a o.n c)), .int .i64 0]) ∧ HeldI w.heap.size w' (.slice a o.n c) o.n o.F)
theorem decPost_eq {w w' : World} {l : List Int} {e e' : Ending} (h : decPost w l e w') (he : e' = e) : decPost w l e' w' := he ▸ h
theorem dec_no {l : List Int} (h : rOp l = none) : decO l = none := by unfold decO; rw [h]
theorem dec_rest {l m : List Int} {o : Od} (h : rOp l = some (o, m)) (hm : ¬ m.length = 0) : decO l = none := by unfold decO; rw [h]; simp only; rw [if_neg (fun x => hm x.1)]
theorem dec_chk {l m : List Int} {o : Od} (h : rOp l = some (o, m)) (hm : ¬ chkO o = 0) : decO l = none := by unfold decO; rw [h]; simp only; rw [if_neg (fun x => hm x.2)]
theorem dec_yes {l m : List Int} {o : Od} (h : rOp l = some (o, m)) (hm : m.length = 0) (hc : chkO o = 0) : decO l = some o := by unfold decO; rw [h]; simp only; rw [if_pos ⟨hm, hc⟩]
theorem rd_one0 (v : Value) (b : Bool) (a : Option Addr) (n c : Nat) : (#[Value.slice a n c, .bool b] : Array Value).all (·.oneCell') = true := by simp [Value.oneCell']
set_option maxHeartbeats 4000000 in
set_option maxRecDepth 100000 in
theorem opDecode_any (l : List Int) (bv : Value) (w : World) (hr : RdB w bv l) (hl : Bytes l) (hlm : l.length ≤ 1000000) :
    Calls Tryz.prog 52 #[bv] w (decPost w l) := by
  obtain ⟨ba, bc, rfl⟩ := hr.slice
  obtain ⟨W, hW⟩ : ∃ W, W = w.alloc (.cells (zO.c (.slice none 0 0)) 35) := ⟨_, rfl⟩
  have hB0 : Below w.heap.size w W := by rw [hW]; exact below_a w _
  have hrz : W.heap[w.heap.size]? = some (.cells (zO.c (.slice none 0 0)) 35 (0, 0)) := by rw [hW]; exact heap_alloc_new w _
  have hWs : W.heap.size = w.heap.size + 1 := by rw [hW]; simp
  have hb1 := below_a W (.cells #[.slice ba l.length bc, .bool false] 122)
  have hS : St w W.heap.size (W.alloc (.cells #[.slice ba l.length bc, .bool false] 122)) l false :=
    ⟨hB0.trans (hb1.mono hB0.size), hB0.size, ba, bc, hr, heap_alloc_new W _⟩
  have hO := Lib.hid (operation_rd hS hl hlm)
  have hrow1 := Lib.hid (rowB hrz hb1 (by omega))
  have hB1 := Lib.hid (hB0.trans (hb1.mono hB0.size))
  have hgs := Lib.hid (show w.heap.size < (W.alloc (.cells #[.slice ba l.length bc, .bool false] 122)).heap.size by simp; omega)
  have hgr := Lib.hid (show w.heap.size < W.heap.size by omega)
  clear hS hr hrz hB0 hb1 hl hlm
  go_enter Tryz.func52, Tryz.ntmps52
  go_upto_region 1 with fail
  change Code.wp _ _ _ _ (w.alloc (.cells (zO.c (.slice none 0 0)) 35))
  rw [← hW]
  clear hW hWs
  go_upto_region 2 with fail
  generalize W.alloc (.cells #[.slice ba l.length bc, .bool false] 122) = W1 at *
  generalize W.heap.size = g2 at *
  go_upto_region 3 with (go_at_call 85; (with_reducible refine (hO.out).mono ?_); rintro e w1 ⟨o, pa, pc, rfl, fo, hn4, hI, l', f', q1, q2, q3, q4, q5⟩; have fo := Lib.hid fo; have hn4 := Lib.hid hn4; have hI := Lib.hid hI; have q1 := Lib.hid q1; have q2 := Lib.hid q2; have q5 := Lib.hid q5)
  have hbz := below_a w1 (.cells (o.c (.slice pa o.n pc)) 35)
  have hl2 := Lib.hid (heap_alloc_new w1 (.cells (o.c (.slice pa o.n pc)) 35))
  have hI2 := Lib.hid (heldI_mono hI.out hbz)
  have hp2 := Lib.hid (hI2.out _ (fun _ _ _ => rfl) (Nat.le_refl _))
  obtain ⟨_, _, a', c', hrr, hrw⟩ := q1.out.kept hbz
  have hrw2 := Lib.hid hrw
  have hrow2 := Lib.hid (rowB (butRow q2.out hrow1.out (by have := hgr.out; omega)) hbz (Nat.lt_of_lt_of_le hgs.out q2.out.size))
  have hB2 := Lib.hid (show Below w.heap.size w (w1.alloc (.cells (o.c (.slice pa o.n pc)) 35)) from (hB1.out.grown q2.out (Nat.le_of_lt hgs.out) (fun k e => by have := Option.some.inj e; have := hgr.out; omega)).trans (hbz.mono (Nat.le_of_lt (Nat.lt_of_lt_of_le hgs.out q2.out.size))))
  clear hbz hrow1 hB1 q1 q2 hI hO hrr hrw
  change Code.wp _ _ _ _ (w1.alloc (.cells (o.c (.slice pa o.n pc)) 35))
  generalize w1.heap.size = g3 at *
  generalize w1.alloc (.cells (o.c (.slice pa o.n pc)) 35) = w2 at *
  have u0 : w2.cell? ⟨g2, 0, none⟩ = some (.slice a' l'.length c') := cell_of_row _ _ _ _ _ _ hrw2.out
  have u1 : w2.cell? ⟨g2, 1, none⟩ = some (.bool f') := cell_of_row _ _ _ _ _ _ hrw2.out
  have hC := Lib.hid (opCheck_any o fo.out (.slice pa o.n pc) w2 hp2.out)
  have hno : decO l = none → ∀ w9, Below w.heap.size w2 w9 → decPost w l (.returned (.tuple #[.agg (zO.c (.slice none 0 0)), .int .i64 12])) w9 := fun hd w9 hb9 => ⟨hB2.out.trans hb9, .inl ⟨hd, rfl⟩⟩
  have hno := Lib.hid hno
  cases f' with
  | true =>
    have hd : decO l = none := by
      rcases q5.out with ⟨_, h⟩ | ⟨h, _⟩
      · exact dec_no h
      · cases h
    have hno := Lib.hid (hno.out hd)
    clear hd q5 hC hp2 hI2 hl2
    go_wp2_with (refine storeOver _ w.heap.size _ rfl 35 _ _ rfl (zO.c (.slice none 0 0)) 35 hrow2.out rfl rfl info_op rfl (op_one zO _ _ _) ?_; intro w9 hr9 hb9; have hr9' := Lib.hid hr9; have hb9' := Lib.hid hb9; clear hr9 hb9)
    exact bodyPost_ret (results_row_tmp rfl _ _ w.heap.size 35 _ _ _ rfl hr9'.out Tryz.underlying35 rfl info_op) rfl (decPost_eq (hno.out _ hb9'.out) rfl)
  | false =>
    have hr : rOp l = some (o, l') := by
      rcases q5.out with ⟨h, _⟩ | ⟨_, h⟩
      · cases h
      · exact h
    by_cases hN : l'.length = 0
    · have i1 : decide ((0 : Int) < (l'.length : Int)) = false := decide_eq_false (by omega)
      have i2 : ¬ (0 : Int) < (l'.length : Int) := by omega
      have hd1 := Lib.hid (fun h => dec_chk hr h)
      have hd2 := Lib.hid (fun h => dec_yes hr hN h)
      have hNh := Lib.hid hN
      clear hr q5
      generalize l'.length = N at *
      by_cases h0 : chkO o = 0
      · have hyes := Lib.hid (fun (w9 : World) (hb9 : Below w.heap.size w2 w9) (h9 : HeldI w.heap.size w9 (.slice pa o.n pc) o.n o.F) => (show decPost w l (.returned (.tuple #[.agg (o.c (.slice pa o.n pc)), .int .i64 0])) w9 from ⟨hB2.out.trans hb9, .inr ⟨o, pa, pc, hd2.out h0, rfl, h9⟩⟩))
        rw [h0] at hC
        clear hd1 hd2 h0 hno
        have hN0 : N = 0 := hNh.out
        subst hN0
        go_wp2_with (first
          | (refine wpList_load_row_g rfl 35 _ rfl g3 rfl 35 (o.c (.slice pa o.n pc)) (0, 0) _ hl2.out Tryz.underlying35 rfl info_op ?_)
          | (go_at_call 56; (with_reducible refine (hC.out).mono ?_); rintro e w3 ⟨rfl, h3⟩; have hb3 := Lib.hid h3; have hl3 := Lib.hid (rowB hl2.out h3 (Array.getElem?_eq_some_iff.1 hl2.out).1); have hrow3 := Lib.hid (rowB hrow2.out h3 (Array.getElem?_eq_some_iff.1 hrow2.out).1); clear h3)
          | (refine wpList_load_row_g rfl 35 _ rfl g3 rfl 35 (o.c (.slice pa o.n pc)) (0, 0) _ hl3.out Tryz.underlying35 rfl info_op ?_)
          | (refine wpList_store_row rfl 35 _ _ rfl w.heap.size (o.c (.slice pa o.n pc)) rfl rfl 35 _ hrow3.out info_op rfl (op_one o pa o.n pc) ?_; have hr9 := Lib.hid (setRow_heap _ _ _ (o.c (.slice pa o.n pc)) _ _ hrow3.out); have hb9 := Lib.hid (below_setRow' (B := w.heap.size) (g := w.heap.size) (Below.refl _ w3) (Nat.le_refl _) (o.c (.slice pa o.n pc)))))
        exact bodyPost_ret (results_row_tmp rfl _ _ w.heap.size 35 _ _ _ rfl hr9.out Tryz.underlying35 rfl info_op) rfl (decPost_eq (hyes.out _ ((hb3.out.mono hB2.out.size).trans hb9.out) (heldI_lower (heldI_setRow (heldI_mono hI2.out hb3.out) hgs.out _) (Nat.le_of_lt hgs.out))) rfl)
      · have hx : (chkO o != 0) = true := by simpa using h0
        have hno := Lib.hid (hno.out (hd1.out h0))
        generalize chkO o = E at *
        clear hd1 hd2 h0
        have hN0 : N = 0 := hNh.out
        subst hN0
        go_wp2_with (first
          | (refine wpList_load_row_g rfl 35 _ rfl g3 rfl 35 (o.c (.slice pa o.n pc)) (0, 0) _ hl2.out Tryz.underlying35 rfl info_op ?_)
          | (go_at_call 56; (with_reducible refine (hC.out).mono ?_); rintro e w3 ⟨rfl, h3⟩; have hb3 := Lib.hid h3; have hrow3 := Lib.hid (rowB hrow2.out h3 (Array.getElem?_eq_some_iff.1 hrow2.out).1); clear h3)
          | (refine storeOver _ w.heap.size _ rfl 35 _ _ rfl (zO.c (.slice none 0 0)) 35 hrow3.out rfl rfl info_op rfl (op_one zO _ _ _) ?_; intro w9 hr9 hb9; have hr9' := Lib.hid hr9; have hb9' := Lib.hid hb9; clear hr9 hb9))
        exact bodyPost_ret (results_row_tmp rfl _ _ w.heap.size 35 _ _ _ rfl hr9'.out Tryz.underlying35 rfl info_op) rfl (decPost_eq (hno.out _ ((hb3.out.mono hB2.out.size).trans hb9'.out)) rfl)
    · have hno := Lib.hid (hno.out (dec_rest hr hN))
      clear hr q5 hC hp2 hI2 hl2
      generalize l'.length = N at *
      have i1 : decide ((0 : Int) < (N : Int)) = true := decide_eq_true (by omega)
      have i2 : (0 : Int) < (N : Int) := by omega
      go_wp2_with (refine storeOver _ w.heap.size _ rfl 35 _ _ rfl (zO.c (.slice none 0 0)) 35 hrow2.out rfl rfl info_op rfl (op_one zO _ _ _) ?_; intro w9 hr9 hb9; have hr9' := Lib.hid hr9; have hb9' := Lib.hid hb9; clear hr9 hb9)
      exact bodyPost_ret (results_row_tmp rfl _ _ w.heap.size 35 _ _ _ rfl hr9'.out Tryz.underlying35 rfl info_op) rfl (decPost_eq (hno.out _ hb9'.out) rfl)
end Go.Proofs.YtnknkiiikeefgaaGreatDoor.wir.val
namespace Go.Proofs.YtnknkiiikeefgaaGreatDoor.wir.val
open Go.RowKit Go.YtnknkiiikeefgaaGreatDoor
set_option linter.unusedVariables false
theorem setRow_same {w : World} {g : Nat} {cs : Array Value} {t : TypeId} {fr : Nat × Nat} (h : w.heap[g]? = some (.cells cs t fr)) : w.setRow g cs = w := by
  have e : (w.setRow g cs).heap = w.heap := by
    apply Array.ext_getElem?
    intro i
    by_cases hi : i = g
    · subst hi; rw [setRow_heap _ _ _ cs _ _ h, h]
    · exact setRow_other w g i cs hi
  unfold World.setRow at e ⊢
  simp only at e
  rw [e]
/-- A store of what lies there already. -/
theorem qa_store_same {P : Program} {C : World → Prop} {o : Oper} {a : Act} (ty : TypeId) (x y : Operand) (ho : o.op = .store ty x y) (g : Nat) (cs : Array Value) (hx : a.eval x = .pointer (some ⟨g, 0, none⟩)) (hy : a.eval y = .agg cs) (t : TypeId)
    (hC : ∀ w, C w → w.heap[g]? = some (.cells cs t (0, 0))) (hi : (P.info? ty).map (·.size) = some cs.size) (h1 : cs.all (·.oneCell') = true) : ∀ w, C w → o.quietAt P a C w undef := by
  intro w hw
  unfold Oper.quietAt execOp
  simp only [ho, hx, hy, Instr.storeAt, Instr.sureAddr, Sem.run_bind, Sem.run_pure, Result.andThen_ok, run_storeVar_row w g t ty cs cs (hC w hw) hi rfl h1, setRow_same (hC w hw)]
  exact ⟨rfl, rfl⟩
theorem results_row_row_tmp {P : Program} {fn : Func} {p q u : Tmp} {ty ty2 : TypeId} (h : fn.results = #[.cell p ty, .cell q ty2, .tmp u]) (tmps : Array Value) (w : World) (g : Nat) (t : TypeId) (cs : Array Value) (fr : Nat × Nat) (d : TypeDesc)
    (g2 : Nat) (t2 : TypeId) (cs2 : Array Value) (fr2 : Nat × Nat) (d2 : TypeDesc)
    (hp : tmps.getD p undef = .pointer (some ⟨g, 0, none⟩)) (hg : w.heap[g]? = some (.cells cs t fr))
    (hu : P.underlying ty = some d) (hd : (match d with | .struct _ | .array _ _ => true | _ => false) = true) (hi : (P.info? ty).map (·.size) = some cs.size)
    (hp2 : tmps.getD q undef = .pointer (some ⟨g2, 0, none⟩)) (hg2 : w.heap[g2]? = some (.cells cs2 t2 fr2))
    (hu2 : P.underlying ty2 = some d2) (hd2 : (match d2 with | .struct _ | .array _ _ => true | _ => false) = true) (hi2 : (P.info? ty2).map (·.size) = some cs2.size) :
    (results fn tmps).run P w = .ok (.tuple #[.agg cs, .agg cs2, tmps.getD u undef]) w := by
  have hc : (results fn tmps).run P w =
      ((asAddr (tmps.getD p undef)).run P w).andThen fun a w₁ => ((loadVar ty a).run P w₁).andThen fun x w₂ => ((asAddr (tmps.getD q undef)).run P w₂).andThen fun b w₃ => ((loadVar ty2 b).run P w₃).andThen fun y w₄ => .ok (.tuple #[x, y, tmps.getD u undef]) w₄ := by
    simp only [results, h]
    simp [Sem.run_bind, Result.andThen]
  rw [hc, hp, hp2]
  have hl := run_loadVar_row (P := P) w g t ty cs fr d hg hu hd hi
  have hl2 := run_loadVar_row (P := P) w g2 t2 ty2 cs2 fr2 d2 hg2 hu2 hd2 hi2
  simp [asAddr, hl, hl2]
/-- The verdict on bytes. -/
def vd (l : List Int) : Int := if 400 < l.length then 3 else match decO l with
  | none => 2
  | some o => if verO o = 0 then 0 else 4
def ofPost (w : World) (l : List Int) (e : Ending) (w' : World) : Prop :=
  Below w.heap.size w w' ∧ ((vd l ≠ 0 ∧ e = .returned (.tuple #[.agg (zO.c (.slice none 0 0)), .agg (u8s (zerosB 32)), .int .u8 (vd l)])) ∨
    ∃ (o : Od) (a : Option Addr) (c : Nat), vd l = 0 ∧ l.length ≤ 400 ∧ decO l = some o ∧ verO o = 0 ∧ e = .returned (.tuple #[.agg (o.c (.slice a o.n c)), .agg (u8s (shaF l)), .int .u8 0]) ∧ HeldI w.heap.size w' (.slice a o.n c) o.n o.F)
theorem ofPost_eq {w w' : World} {l : List Int} {e e' : Ending} (h : ofPost w l e w') (he : e' = e) : ofPost w l e' w' := he ▸ h
theorem zid_info : (Tryz.prog.info? 24).map (·.size) = some (u8s (zerosB 32)).size := by rw [u8s_size, zerosB_length]; kernel_rfl
set_option maxHeartbeats 4000000 in
set_option maxRecDepth 100000 in
theorem judgeOf_any (l : List Int) (bv : Value) (w : World) (hr : RdB w bv l) (hl : Bytes l) (hG0 : GlobW w) :
    Calls Tryz.prog 45 #[bv] w (ofPost w l) := by
  obtain ⟨ba, bc, rfl⟩ := hr.slice
  obtain ⟨N, hN⟩ : ∃ N, l.length = N := ⟨_, rfl⟩
  rw [hN] at hr ⊢
  obtain ⟨W, hW⟩ : ∃ W, W = (w.alloc (.cells (zO.c (.slice none 0 0)) 35)).alloc (.cells (u8s (zerosB 32)) 24) := ⟨_, rfl⟩
  have hr0 : W.heap[w.heap.size]? = some (.cells (zO.c (.slice none 0 0)) 35 (0, 0)) := by rw [hW]; exact rowB (heap_alloc_new w _) (below_a _ _) (by simp)
  have hr1 : W.heap[w.heap.size + 1]? = some (.cells (u8s (zerosB 32)) 24 (0, 0)) := by rw [hW]; exact hn2 w _ _
  have hb0 : Below w.heap.size w W := by rw [hW]; exact ((Below.refl w.heap.size w).alloc (Nat.le_refl _) _).alloc (by simp) _
  have hsz : W.heap.size = w.heap.size + 2 := by rw [hW]; simp
  have hS := Lib.hid hb0
  have r0 := Lib.hid hr0
  have r1 := Lib.hid hr1
  have bw := Lib.hid hr
  have hG := Lib.hid hG0
  have zi := Lib.hid zid_info
  have hlt := Lib.hid (show w.heap.size + 2 ≤ W.heap.size by omega)
  clear hr0 hr1 hb0 hr hG0 hsz
  have hno : ∀ (v : Int), vd l = v → v ≠ 0 → ∀ w9, Below w.heap.size w w9 → ofPost w l (.returned (.tuple #[.agg (zO.c (.slice none 0 0)), .agg (u8s (zerosB 32)), .int .u8 v])) w9 := fun v hv h0 w9 h9 => ⟨h9, .inl ⟨by rw [hv]; exact h0, by rw [hv]⟩⟩
  by_cases hbig : 400 < N
  · have i1 : (400 : Int) < (N : Int) := by omega
    have hno := Lib.hid (hno 3 (by unfold vd; rw [if_pos (by rw [hN]; exact hbig)]) (by decide))
    clear hl hN
    go_enter Tryz.func45, Tryz.ntmps45
    go_upto_region 1 with fail
    change Code.wp _ _ _ _ ((w.alloc (.cells (zO.c (.slice none 0 0)) 35)).alloc (.cells (u8s (zerosB 32)) 24))
    rw [← hW]
    clear hW
    go_wp2_with (first
      | (refine wpList_store_row rfl 35 _ _ rfl w.heap.size (zO.c (.slice none 0 0)) rfl rfl 35 _ r0.out info_op rfl (op_one zO _ _ _) ?_; rw [setRow_same r0.out])
      | (refine wpList_store_row rfl 24 _ _ rfl (w.heap.size + 1) (u8s (zerosB 32)) rfl (by kernel_rfl) 24 _ r1.out zi.out rfl (u8s_one _) ?_; rw [setRow_same r1.out]))
    exact bodyPost_ret (results_row_row_tmp rfl _ _ w.heap.size 35 _ _ _ (w.heap.size + 1) 24 _ _ _ rfl r0.out Tryz.underlying35 rfl info_op rfl r1.out Tryz.underlying24 rfl zi.out) rfl (ofPost_eq (hno.out _ hS.out) rfl)
  have i1 : ¬ (400 : Int) < (N : Int) := by omega
  have hN4 : ¬ 400 < l.length := by rw [hN]; exact hbig
  cases hd : decO l with
  | none =>
    have hno := Lib.hid (hno 2 (by unfold vd; rw [if_neg hN4, hd]) (by decide))
    have hD := Lib.hid (fun (wz : World) (h : RdB wz (.slice ba N bc) l) => (opDecode_any l _ wz h hl (by omega)).mono (R' := fun e w' => e = .returned (.tuple #[.agg (zO.c (.slice none 0 0)), .int .i64 12]) ∧ Below wz.heap.size wz w') (by
      rintro e w' ⟨hb, hq⟩
      rw [hd] at hq
      rcases hq with ⟨_, he⟩ | ⟨p, a, c, hq, _⟩
      · exact ⟨he, hb⟩
      · cases hq))
    clear hl hN hN4 hd
    go_enter Tryz.func45, Tryz.ntmps45
    go_upto_region 1 with fail
    change Code.wp _ _ _ _ ((w.alloc (.cells (zO.c (.slice none 0 0)) 35)).alloc (.cells (u8s (zerosB 32)) 24))
    rw [← hW]
    clear hW
    go_wp2_with (first
      | (go_at_call 52; (with_reducible refine (hD.out _ (bw.out.mono hS.out)).mono ?_); rintro e w4 ⟨rfl, q2⟩; replace r0 := Lib.hid (rowB r0.out q2 (Array.getElem?_eq_some_iff.1 r0.out).1); replace r1 := Lib.hid (rowB r1.out q2 (Array.getElem?_eq_some_iff.1 r1.out).1); replace hS := Lib.hid (hS.out.trans (Below.mono q2 hS.out.size)); clear q2)
      | (refine wpList_store_row rfl 35 _ _ rfl w.heap.size (zO.c (.slice none 0 0)) rfl rfl 35 _ r0.out info_op rfl (op_one zO _ _ _) ?_; rw [setRow_same r0.out])
      | (refine wpList_store_row rfl 24 _ _ rfl (w.heap.size + 1) (u8s (zerosB 32)) rfl (by kernel_rfl) 24 _ r1.out zi.out rfl (u8s_one _) ?_; rw [setRow_same r1.out]))
    exact bodyPost_ret (results_row_row_tmp rfl _ _ w.heap.size 35 _ _ _ (w.heap.size + 1) 24 _ _ _ rfl r0.out Tryz.underlying35 rfl info_op rfl r1.out Tryz.underlying24 rfl zi.out) rfl (ofPost_eq (hno.out _ hS.out) rfl)
  | some o =>
    obtain ⟨e1, fo, c0, hF⟩ := decO_back hl hd
    have hD := Lib.hid (fun (wz : World) (h : RdB wz (.slice ba N bc) l) => (opDecode_any l _ wz h hl (by omega)).mono (R' := fun e w' => ∃ (a : Option Addr) (c : Nat), e = .returned (.tuple #[.agg (o.c (.slice a o.n c)), .int .i64 0]) ∧ HeldI wz.heap.size w' (.slice a o.n c) o.n o.F ∧ Below wz.heap.size wz w') (by
      rintro e w' ⟨hb, hq⟩
      rw [hd] at hq
      rcases hq with ⟨hq, _⟩ | ⟨p, a, c, hq, he, hi⟩
      · cases hq
      · obtain rfl := Option.some.inj hq
        exact ⟨a, c, he, hi, hb⟩))
    have hV := Lib.hid (fun (wz : World) (v : Value) (h : RdI wz v o.n o.F) (hg : GlobW wz) => opVerify_any o fo v wz h hg)
    have hI := Lib.hid (fun (wz : World) (v : Value) (h : RdI wz v o.n o.F) (hg : GlobW wz) => (show Calls Tryz.prog 13 #[.agg (o.c v)] wz fun e w' => e = .returned (.tuple #[.agg (u8s (shaF l)), .int .i64 0]) ∧ Below wz.heap.size wz w' from by
      obtain ⟨Tg, Tf, g1, g2⟩ := hg
      rw [← e1]
      exact opID_ok o fo v wz h c0 g1 g2))
    have hyes := fun (h0 : verO o = 0) (a : Option Addr) (c : Nat) (w9 : World) (h9 : Below w.heap.size w w9) (hh : HeldI w.heap.size w9 (.slice a o.n c) o.n o.F) => (show ofPost w l (.returned (.tuple #[.agg (o.c (.slice a o.n c)), .agg (u8s (shaF l)), .int .u8 0])) w9 from
      ⟨h9, .inr ⟨o, a, c, by unfold vd; rw [if_neg hN4, hd]; simp only; rw [if_pos h0], by omega, hd, h0, rfl, hh⟩⟩)
    have hno4 := fun (h0 : ¬ verO o = 0) => hno 4 (by unfold vd; rw [if_neg hN4, hd]; simp only; rw [if_neg h0]) (by decide)
    have hDl : (shaF l).length = 32 := shaF_length _
    have di := Lib.hid (show (Tryz.prog.info? 24).map (·.size) = some (u8s (shaF l)).size by rw [u8s_size, hDl]; kernel_rfl)
    have ds := Lib.hid (show (u8s (zerosB 32)).size = (u8s (shaF l)).size by rw [u8s_size, u8s_size, hDl, zerosB_length])
    clear hno hl hN hN4 hd e1 fo c0 hF hDl
    generalize shaF l = D at *
    generalize verO o = VE at *
    by_cases h0 : VE = 0
    · have hY := Lib.hid (hyes h0)
      clear hno4 hyes
      subst h0
      go_enter Tryz.func45, Tryz.ntmps45
      go_upto_region 1 with fail
      change Code.wp _ _ _ _ ((w.alloc (.cells (zO.c (.slice none 0 0)) 35)).alloc (.cells (u8s (zerosB 32)) 24))
      rw [← hW]
      clear hW
      go_upto_region 4 with (first
        | (go_at_call 52; (with_reducible refine (hD.out _ (bw.out.mono hS.out)).mono ?_); rintro e w4 ⟨pa, pc, rfl, q1, q2⟩; have hH := Lib.hid (heldI_lower q1 (Nat.le_of_lt (by have := hlt.out; omega : w.heap.size < W.heap.size))); have hH2 := Lib.hid q1; replace r0 := Lib.hid (rowB r0.out q2 (Array.getElem?_eq_some_iff.1 r0.out).1); replace r1 := Lib.hid (rowB r1.out q2 (Array.getElem?_eq_some_iff.1 r1.out).1); replace hS := Lib.hid (hS.out.trans (Below.mono q2 hS.out.size)); clear q1 q2)
        | (refine wpList_store_row rfl 35 _ _ rfl w.heap.size (o.c (.slice pa o.n pc)) rfl rfl 35 _ r0.out info_op rfl (op_one o pa o.n pc) ?_))
      have k0 := Lib.hid (setRow_heap _ _ _ (o.c (.slice pa o.n pc)) _ _ r0.out)
      have k1 := Lib.hid ((setRow_other w4 w.heap.size (w.heap.size + 1) (o.c (.slice pa o.n pc)) (by omega)).trans r1.out)
      have kS := Lib.hid (below_setRow' (g := w.heap.size) hS.out (Nat.le_refl _) (o.c (.slice pa o.n pc)))
      have kH := Lib.hid (heldI_setRow (k := w.heap.size) hH2.out (by have := hlt.out; omega) (o.c (.slice pa o.n pc)))
      clear r0 r1 hS hH hH2
      generalize w4.setRow w.heap.size (o.c (.slice pa o.n pc)) = w5 at *
      have xP := Lib.hid (show RdI w5 (.slice pa o.n pc) o.n o.F from kH.out w5 (fun _ _ _ => rfl) (Nat.le_refl _))
      go_upto_region 9 with (first
        | (refine wpList_load_row_g rfl 35 _ rfl w.heap.size rfl 35 (o.c (.slice pa o.n pc)) (0, 0) _ k0.out Tryz.underlying35 rfl info_op ?_)
        | (go_at_call 22; (with_reducible refine (hV.out _ _ xP.out (hG.out.mono kS.out)).mono ?_); rintro e w6 ⟨rfl, q2⟩; replace k0 := Lib.hid (rowB k0.out q2 (Array.getElem?_eq_some_iff.1 k0.out).1); replace k1 := Lib.hid (rowB k1.out q2 (Array.getElem?_eq_some_iff.1 k1.out).1); replace kS := Lib.hid (kS.out.trans (Below.mono q2 kS.out.size)); replace kH := Lib.hid (heldI_mono kH.out q2); replace xP := Lib.hid (xP.out.mono q2); clear q2)
        | (go_at_call 13; (with_reducible refine (hI.out _ _ xP.out (hG.out.mono kS.out)).mono ?_); rintro e w7 ⟨rfl, q2⟩; replace k0 := Lib.hid (rowB k0.out q2 (Array.getElem?_eq_some_iff.1 k0.out).1); replace k1 := Lib.hid (rowB k1.out q2 (Array.getElem?_eq_some_iff.1 k1.out).1); replace kS := Lib.hid (kS.out.trans (Below.mono q2 kS.out.size)); replace kH := Lib.hid (heldI_mono kH.out q2); replace xP := Lib.hid (xP.out.mono q2); clear q2)
        | (refine wpList_store_row rfl 24 _ _ rfl (w.heap.size + 1) (u8s D) rfl rfl 24 _ k1.out di.out ds.out (u8s_one _) ?_))
      have z1 := Lib.hid (setRow_heap _ _ _ (u8s D) _ _ k1.out)
      have z0 := Lib.hid ((setRow_other w7 (w.heap.size + 1) w.heap.size (u8s D) (by omega)).trans k0.out)
      have zS := Lib.hid (below_setRow' (g := w.heap.size + 1) kS.out (Nat.le_succ _) (u8s D))
      have zH := Lib.hid (heldI_setRow (k := w.heap.size + 1) kH.out (by have := hlt.out; omega) (u8s D))
      clear k0 k1 kS kH xP
      generalize w7.setRow (w.heap.size + 1) (u8s D) = w8 at *
      have lt0 := Lib.hid (Array.getElem?_eq_some_iff.1 z0.out).1
      have lt1 := Lib.hid (Array.getElem?_eq_some_iff.1 z1.out).1
      have y0 := Lib.hid (fun (w' : World) (h : Below w8.heap.size w8 w') => rowB z0.out h lt0.out)
      have y1 := Lib.hid (fun (w' : World) (h : Below w8.heap.size w8 w') => rowB z1.out h lt1.out)
      refine wp_region_quiet (C := fun w' => Below w8.heap.size w8 w') (by kernel_rfl) (by kernel_rfl) ((Below.refl _ _).drew) ?_
      simp only []
      refine wpq (.agg (o.c (.slice pa o.n pc))) rfl (quiet_row 35 _ rfl w.heap.size rfl 35 (o.c (.slice pa o.n pc)) (0, 0) _ y0.out Tryz.underlying35 rfl info_op) rfl (fun K hK => ?_); go_simp; refine hK _ ?_; clear hK K
      refine wpq (.agg (u8s D)) rfl (quiet_row 24 _ rfl (w.heap.size + 1) rfl 24 (u8s D) (0, 0) _ y1.out Tryz.underlying24 rfl di.out) rfl (fun K hK => ?_); go_simp; refine hK _ ?_; clear hK K
      refine wpq undef rfl (qa_store_same 35 _ _ rfl w.heap.size (o.c (.slice pa o.n pc)) rfl rfl 35 y0.out info_op (op_one o pa o.n pc)) rfl (fun K hK => ?_); go_simp; refine hK _ ?_; clear hK K
      refine wpq undef rfl (qa_store_same 24 _ _ rfl (w.heap.size + 1) (u8s D) rfl rfl 24 y1.out di.out (u8s_one _)) rfl (fun K hK => ?_); go_simp; refine hK _ ?_; clear hK K
      (go_big_quiet_want; go_big_quiet_op; first | go_big_quiet_on | (refine ⟨_, fun _ _ => rfl, ?_⟩; go_big_quiet_on))
      refine wpQuiet_nil ?_
      intro w9 h9
      have x0 := Lib.hid (y0.out w9 h9)
      have x1 := Lib.hid (y1.out w9 h9)
      have hfin := Lib.hid (hY.out pa pc w9 (zS.out.trans (h9.mono zS.out.size)) (heldI_lower (heldI_mono zH.out h9) (by have := hlt.out; omega)))
      clear h9
      go_wp2
      exact bodyPost_ret (results_row_row_tmp rfl _ _ w.heap.size 35 _ _ _ (w.heap.size + 1) 24 _ _ _ rfl x0.out Tryz.underlying35 rfl info_op rfl x1.out Tryz.underlying24 rfl di.out) rfl (ofPost_eq hfin.out rfl)
    · have hno := Lib.hid (hno4 h0)
      have hVb : (VE != 0) = true := by simpa using h0
      clear hno4 hyes h0
      go_enter Tryz.func45, Tryz.ntmps45
      go_upto_region 1 with fail
      change Code.wp _ _ _ _ ((w.alloc (.cells (zO.c (.slice none 0 0)) 35)).alloc (.cells (u8s (zerosB 32)) 24))
      rw [← hW]
      clear hW
      go_upto_region 4 with (first
        | (go_at_call 52; (with_reducible refine (hD.out _ (bw.out.mono hS.out)).mono ?_); rintro e w4 ⟨pa, pc, rfl, q1, q2⟩; have hH2 := Lib.hid q1; replace r0 := Lib.hid (rowB r0.out q2 (Array.getElem?_eq_some_iff.1 r0.out).1); replace r1 := Lib.hid (rowB r1.out q2 (Array.getElem?_eq_some_iff.1 r1.out).1); replace hS := Lib.hid (hS.out.trans (Below.mono q2 hS.out.size)); clear q1 q2)
        | (refine wpList_store_row rfl 35 _ _ rfl w.heap.size (o.c (.slice pa o.n pc)) rfl rfl 35 _ r0.out info_op rfl (op_one o pa o.n pc) ?_))
      have k0 := Lib.hid (setRow_heap _ _ _ (o.c (.slice pa o.n pc)) _ _ r0.out)
      have k1 := Lib.hid ((setRow_other w4 w.heap.size (w.heap.size + 1) (o.c (.slice pa o.n pc)) (by omega)).trans r1.out)
      have kS := Lib.hid (below_setRow' (g := w.heap.size) hS.out (Nat.le_refl _) (o.c (.slice pa o.n pc)))
      have kH := Lib.hid (heldI_setRow (k := w.heap.size) hH2.out (by have := hlt.out; omega) (o.c (.slice pa o.n pc)))
      clear r0 r1 hS hH2
      generalize w4.setRow w.heap.size (o.c (.slice pa o.n pc)) = w5 at *
      have xP := Lib.hid (show RdI w5 (.slice pa o.n pc) o.n o.F from kH.out w5 (fun _ _ _ => rfl) (Nat.le_refl _))
      clear kH
      go_upto_region 7 with (first
        | (refine wpList_load_row_g rfl 35 _ rfl w.heap.size rfl 35 (o.c (.slice pa o.n pc)) (0, 0) _ k0.out Tryz.underlying35 rfl info_op ?_)
        | (go_at_call 22; (with_reducible refine (hV.out _ _ xP.out (hG.out.mono kS.out)).mono ?_); rintro e w6 ⟨rfl, q2⟩; replace k0 := Lib.hid (rowB k0.out q2 (Array.getElem?_eq_some_iff.1 k0.out).1); replace k1 := Lib.hid (rowB k1.out q2 (Array.getElem?_eq_some_iff.1 k1.out).1); replace kS := Lib.hid (kS.out.trans (Below.mono q2 kS.out.size)); clear q2))
      have z0 := Lib.hid (setRow_heap _ _ _ (zO.c (.slice none 0 0)) _ _ k0.out)
      have z1 := Lib.hid ((setRow_other w6 w.heap.size (w.heap.size + 1) (zO.c (.slice none 0 0)) (by omega)).trans k1.out)
      have zS := Lib.hid (below_setRow' (g := w.heap.size) kS.out (Nat.le_refl _) (zO.c (.slice none 0 0)))
      go_wp2_with (first
        | (refine wpList_store_row rfl 35 _ _ rfl w.heap.size (zO.c (.slice none 0 0)) rfl rfl 35 _ k0.out info_op rfl (op_one zO _ _ _) ?_)
        | (refine wpList_store_row rfl 24 _ _ rfl (w.heap.size + 1) (u8s (zerosB 32)) rfl (by kernel_rfl) 24 _ z1.out zi.out rfl (u8s_one _) ?_; rw [setRow_same z1.out]))
      exact bodyPost_ret (results_row_row_tmp rfl _ _ w.heap.size 35 _ _ _ (w.heap.size + 1) 24 _ _ _ rfl z0.out Tryz.underlying35 rfl info_op rfl z1.out Tryz.underlying24 rfl zi.out) rfl (ofPost_eq (hno.out _ zS.out) rfl)
end Go.Proofs.YtnknkiiikeefgaaGreatDoor.wir.val
namespace Go.Proofs.YtnknkiiikeefgaaGreatDoor.wir.val
open Go.RowKit Go.YtnknkiiikeefgaaGreatDoor
set_option linter.unusedVariables false
theorem rowA (w : World) (A B : Obj) : ((w.alloc A).alloc B).heap[w.heap.size]? = some A := rowB (heap_alloc_new w A) (below_a _ _) (by simp)
/-- What the judge says, whatever it is. -/
theorem judgeOf_w (l : List Int) (bv : Value) (w : World) (hr : RdB w bv l) (hl : Bytes l) (hG0 : GlobW w) :
    Calls Tryz.prog 45 #[bv] w fun e w' => ∃ (o : Od) (a : Option Addr) (n c : Nat) (D : List Int), D.length = 32 ∧ e = .returned (.tuple #[.agg (o.c (.slice a n c)), .agg (u8s D), .int .u8 (vd l)]) ∧ Below w.heap.size w w' := by
  refine (judgeOf_any l bv w hr hl hG0).mono ?_
  rintro e w' ⟨hb, ⟨_, he⟩ | ⟨o, a, c, hv, _, _, _, he, _⟩⟩
  · exact ⟨zO, none, 0, 0, zerosB 32, zerosB_length _, he, hb⟩
  · exact ⟨o, a, o.n, c, shaF l, shaF_length _, by rw [hv]; exact he, hb⟩
set_option maxHeartbeats 4000000 in
set_option maxRecDepth 100000 in
theorem judgeFine_any (l : List Int) (bv : Value) (w : World) (hr : RdB w bv l) (hl : Bytes l) (hG0 : GlobW w) :
    Calls Tryz.prog 83 #[bv] w fun e w' => e = .returned (.bool (vd l == 0)) ∧ Below w.heap.size w w' := by
  have hO := Lib.hid (judgeOf_w l bv w hr hl hG0)
  obtain ⟨ba, bc, rfl⟩ := hr.slice
  generalize vd l = V at *
  clear hr hl hG0
  generalize l.length = N at *
  go_enter Tryz.func83, Tryz.ntmps83
  go_wp2_with (first
    | (go_at_call 45; (with_reducible refine (hO.out).mono ?_); rintro e w1 ⟨o, a, n, c, D, hD, rfl, hb⟩; have hb1 := Lib.hid hb; have di := Lib.hid (show (Tryz.prog.info? 24).map (·.size) = some (u8s D).size by rw [u8s_size, hD]; kernel_rfl); have ds := Lib.hid (fun x : Array Value => fun hx : x = u8s (zerosB 32) => (show x.size = (u8s D).size by rw [hx, u8s_size, u8s_size, hD, zerosB_length])); clear hb hD)
    | (refine wpList_store_row rfl 35 _ _ rfl w1.heap.size (o.c (.slice a n c)) rfl rfl 35 _ (rowA w1 _ _) info_op rfl (op_one o a n c) ?_; have hb3 := Lib.hid (below_setRow' (B := w.heap.size) (g := w1.heap.size) ((hb1.out.alloc hb1.out.size (.cells (zO.c (.slice none 0 0)) 35)).alloc (by simp; have := hb1.out.size; omega) (.cells (u8s (zerosB 32)) 24)) hb1.out.size (o.c (.slice a n c))))
    | (refine storeOver _ (w1.heap.size + 1) _ rfl 24 _ _ rfl (u8s D) 24 ((setRow_other _ w1.heap.size (w1.heap.size + 1) _ (by omega)).trans (hn2 w1 _ _)) rfl rfl di.out (ds.out _ (by kernel_rfl)) (u8s_one _) ?_; intro w9 hr9 hb9; have hb9' := Lib.hid hb9; clear hr9 hb9))
  go_ret
  exact ⟨rfl, hb3.out.trans (hb9'.out.mono (by have := hb1.out.size; omega))⟩
set_option maxHeartbeats 4000000 in
set_option maxRecDepth 100000 in
theorem verdict_any (l : List Int) (bv : Value) (w : World) (hr : RdB w bv l) (hl : Bytes l) (hG0 : GlobW w) :
    Calls Tryz.prog 47 #[bv] w fun e w' => e = .returned (.int .u8 (vd l)) ∧ Below w.heap.size w w' := by
  have hO := Lib.hid (judgeOf_w l bv w hr hl hG0)
  obtain ⟨ba, bc, rfl⟩ := hr.slice
  generalize vd l = V at *
  clear hr hl hG0
  generalize l.length = N at *
  go_enter Tryz.func47, Tryz.ntmps47
  go_wp2_with (first
    | (go_at_call 45; (with_reducible refine (hO.out).mono ?_); rintro e w1 ⟨o, a, n, c, D, hD, rfl, hb⟩; have hb1 := Lib.hid hb; have di := Lib.hid (show (Tryz.prog.info? 24).map (·.size) = some (u8s D).size by rw [u8s_size, hD]; kernel_rfl); have ds := Lib.hid (fun x : Array Value => fun hx : x = u8s (zerosB 32) => (show x.size = (u8s D).size by rw [hx, u8s_size, u8s_size, hD, zerosB_length])); clear hb hD)
    | (refine wpList_store_row rfl 35 _ _ rfl w1.heap.size (o.c (.slice a n c)) rfl rfl 35 _ (rowA w1 _ _) info_op rfl (op_one o a n c) ?_; have hb3 := Lib.hid (below_setRow' (B := w.heap.size) (g := w1.heap.size) ((hb1.out.alloc hb1.out.size (.cells (zO.c (.slice none 0 0)) 35)).alloc (by simp; have := hb1.out.size; omega) (.cells (u8s (zerosB 32)) 24)) hb1.out.size (o.c (.slice a n c))))
    | (refine storeOver _ (w1.heap.size + 1) _ rfl 24 _ _ rfl (u8s D) 24 ((setRow_other _ w1.heap.size (w1.heap.size + 1) _ (by omega)).trans (hn2 w1 _ _)) rfl rfl di.out (ds.out _ (by kernel_rfl)) (u8s_one _) ?_; intro w9 hr9 hb9; have hb9' := Lib.hid hb9; clear hr9 hb9))
  go_ret
  exact ⟨rfl, hb3.out.trans (hb9'.out.mono (by have := hb1.out.size; omega))⟩
/-- What a secret signs. -/
theorem sig_gen (a : Nat) (h : 1 ≤ a ∧ a < 500000003) (o : Od) (fo : o.Fit) (hF : o.F.length = 32 * o.n) (h0 : chkO (o.byA (grp.pw 4 a)).bare = 0) :
    ∃ T : Od, T.Fit ∧ chkO T = 0 ∧ verO T = 0 ∧ T.n = o.n ∧ T.F = o.F ∧ (∃ E S, T = o.sigd (grp.pw 4 a) E S) ∧ ∀ w v, RdI w v o.n o.F → GlobW w → Calls Tryz.prog 55 #[.int .u32 (a : Int), .agg (o.c v)] w fun e w' => ∃ qa qc, e = .returned (.tuple #[.agg (T.c (.slice qa T.n qc)), .int .i64 0]) ∧ RdI w' (.slice qa T.n qc) T.n T.F ∧ Below w.heap.size w w' := by
  have hy : grp.pw 4 a < 4294967296 := Nat.lt_trans (grp.pw_lt 4 a) (by decide)
  have he := eN_lt a (msgB (o.byA (grp.pw 4 a)))
  have hs := sN_lt a (msgB (o.byA (grp.pw 4 a)))
  have hr := signed_right a (msgB (o.byA (grp.pw 4 a)))
  have hS := fun w v hp hg => opSign_ok a h o fo v w hp hg h0
  generalize eN a (msgB (o.byA (grp.pw 4 a))) = E at *
  generalize sN a (msgB (o.byA (grp.pw 4 a))) = S at *
  have hc := chk_sigd h0 he hs
  refine ⟨o.sigd (grp.pw 4 a) E S, fit_sigd fo _ E S hy he hs, hc, ver_zero o _ E S hc hr, rfl, rfl, ⟨E, S, rfl⟩, fun w v hp hg => (hS w v hp hg).mono ?_⟩
  rintro e w' ⟨qv, rfl, hq, hb⟩
  obtain ⟨qa, qc, rfl⟩ := hq.slice
  exact ⟨qa, qc, rfl, hq, hb⟩
theorem vd_good {T : Od} (fT : T.Fit) (hF : T.F.length = 32 * T.n) (hc : chkO T = 0) (hv : verO T = 0) : vd (encO T) = 0 ∧ (encO T).length ≤ 400 ∧ Bytes (encO T) := by
  obtain ⟨h1, h2, h3⟩ := chk_zero hc
  have hl := encO_short T fT h1 hF h3
  refine ⟨?_, hl, encO_bytes T fT h1 h3⟩
  unfold vd
  rw [if_neg (by omega), decO_enc fT hF hc]
  simp only
  rw [if_pos hv]
def kO : Od := ⟨0, 0, [], 1, 2, ⟨#[107]⟩, ⟨0, 0, 0, ⟨#[]⟩⟩, 0, 0⟩
theorem kO_fit : kO.Fit := ⟨by decide, bytes_nil, by decide, by decide, by decide, by decide, ⟨by decide, by decide, by decide, by decide⟩, by decide, by decide⟩
theorem kO_ok2 : (decide ((kO.st : Int) ≤ 1000000000000) && actB kO.k kO.key kO.v) = true := by decide +kernel
theorem kO_chk : chkO (kO.byA (grp.pw 4 5)).bare = 0 := chk_ok (show ¬ 4 < 0 by decide) rfl (okO_of (kO.byA (grp.pw 4 5)).bare (grp.inG_pw 4 5 grp.in4) kO_ok2 gO_sig0)
set_option maxHeartbeats 4000000 in
set_option maxRecDepth 100000 in
/-- The bytes of what the secret 5 signs. -/
theorem signed5 : ∃ B : List Int, vd B = 0 ∧ B.length ≤ 400 ∧ Bytes B ∧ ∀ w, GlobW w → Calls Tryz.prog 44 #[.int .u32 5] w fun e w' => ∃ a c, e = .returned (.slice a B.length c) ∧ RdB w' (.slice a B.length c) B ∧ Below w.heap.size w w' := by
  obtain ⟨T, fT, cT, vT, nT, FT, _, hS⟩ := sig_gen 5 ⟨by omega, by omega⟩ kO kO_fit rfl kO_chk
  have hF : T.F.length = 32 * T.n := by rw [nT, FT]; rfl
  obtain ⟨g1, g2, g3⟩ := vd_good fT hF cT vT
  refine ⟨encO T, g1, g2, g3, fun w hG0 => ?_⟩
  have hSg := Lib.hid (show Calls Tryz.prog 55 #[.int .u32 5, .agg #[.int .u32 0, .slice none 0 0, .int .u64 1, .int .u8 2, .string ⟨#[107]⟩, .int .u8 0, .int .i64 0, .int .u64 0, .string ⟨#[]⟩, .int .u32 0, .int .u32 0]] w fun e w' => ∃ qa qc, e = .returned (.tuple #[.agg (T.c (.slice qa T.n qc)), .int .i64 0]) ∧ RdI w' (.slice qa T.n qc) T.n T.F ∧ Below w.heap.size w w' from hS w (.slice none 0 0) (.inl ⟨none, 0, rfl, fun _ => rfl, rfl, rfl⟩) hG0)
  have hE := Lib.hid (fun wz v (h : RdI wz v T.n T.F) => opEncode_ok T fT v wz h cT)
  generalize encO T = B at *
  clear g1 g2 g3 hF nT FT fT cT vT hS hG0
  obtain ⟨N, hN⟩ : ∃ N, B.length = N := ⟨_, rfl⟩
  have hN := Lib.hid hN
  go_enter Tryz.func44, Tryz.ntmps44
  go_upto_region 2 with (first
    | (go_at_call 55; (with_reducible refine (hSg.out).mono ?_); rintro e w1 ⟨qa, qc, rfl, hq, hb⟩; have hb1 := Lib.hid hb; have hq1 := Lib.hid hq; clear hb hq)
    | (refine storeNew _ rfl 35 _ _ rfl (T.c (.slice qa T.n qc)) 35 rfl rfl info_op rfl (op_one T qa T.n qc) ?_; intro w2 hr2 hb2; have r2 := Lib.hid hr2; have hb2 := Lib.hid hb2; have hq2 := Lib.hid (hq1.out.mono hb2.out); clear hr2))
  go_wp2_with (first
    | (refine wpList_load_row_g rfl 35 _ rfl _ rfl 35 (T.c (.slice qa T.n qc)) (0, 0) _ r2.out Tryz.underlying35 rfl info_op ?_)
    | (go_at_call 50; (with_reducible refine (hE.out _ _ hq2.out).mono ?_); rintro e w3 ⟨sv, rfl, h3, h4⟩; have hO := Lib.hid h3.rd; have hb3 := Lib.hid h4; clear h3 h4))
  go_ret
  obtain ⟨a, c, rfl⟩ := hO.out.slice
  exact ⟨a, c, rfl, hO.out, (hb1.out.trans (hb2.out.mono hb1.out.size)).trans (hb3.out.mono (Nat.le_trans hb1.out.size hb2.out.size))⟩
theorem vd_nil : vd [] = 2 := by decide +kernel
theorem vd_401 : vd (zerosB 401) = 3 := by unfold vd; rw [if_pos (by rw [zerosB_length]; decide)]
def bO : Od := ⟨4, 0, [], 7, 1, ⟨#[]⟩, ⟨0, 0, 0, ⟨#[]⟩⟩, 0, 0⟩
theorem bO_fit : bO.Fit := ⟨by decide, bytes_nil, by decide, by decide, by decide, by decide, ⟨by decide, by decide, by decide, by decide⟩, by decide, by decide⟩
theorem bO_ok2 : (decide ((bO.st : Int) ≤ 1000000000000) && actB bO.k bO.key bO.v) = true := by decide +kernel
theorem bO_chk : chkO bO = 0 := chk_ok (by decide) rfl (okO_of bO grp.in4 bO_ok2 gO_sig0)
theorem bO_enc : encO bO = [111, 4, 0, 7, 1, 0, 0] := by decide +kernel
theorem bO_msg : msgB bO = [111, 4, 0, 7, 1] := by decide +kernel
theorem bO_hash : decide (hN 99 [1, 4] [111, 4, 0, 7, 1] % 500000003 = 0) = false := by decide +kernel
theorem pw_ones (n : Nat) : 1 * grp.pw 1 n % grp.GP = 1 := by
  unfold grp.pw
  rw [Nat.one_pow]
  rfl
theorem rN_one (y : Nat) : rN y 0 0 = 1 := by
  unfold rN
  generalize 500000002 = n
  rw [grp.pw_zero, grp.pw_zero, pw_ones]
theorem bO_right : rightB 4 [111, 4, 0, 7, 1] 0 0 = false := by
  have h := bO_hash
  unfold rightB
  rw [rN_one]
  unfold chalN
  rw [show ([((1 : Nat) : Int), ((4 : Nat) : Int)] : List Int) = [1, 4] from rfl, h]
  rfl
theorem bO_ver : verO bO = 22 := by
  unfold verO
  rw [if_pos bO_chk, bO_msg]
  have h := bO_right
  show (if rightB 4 [111, 4, 0, 7, 1] 0 0 = true then (0 : Int) else 22) = 22
  rw [h]
  rfl
theorem vd_bad : vd [111, 4, 0, 7, 1, 0, 0] = 4 := by
  have h := decO_enc bO_fit rfl bO_chk
  rw [bO_enc] at h
  unfold vd
  rw [if_neg (by decide), h]
  simp only
  rw [bO_ver]
  rfl
theorem bytes7 : Bytes [111, 4, 0, 7, 1, 0, 0] := by
  have h := encO_bytes bO bO_fit (by decide) (chk_zero bO_chk).2.2
  rw [bO_enc] at h
  exact h
theorem rd7 (w : World) : RdB (w.alloc (.cells #[.int .u8 111, .int .u8 4, .int .u8 0, .int .u8 7, .int .u8 1, .int .u8 0, .int .u8 0] 5)) (.slice (some ⟨w.heap.size, 0, none⟩) 7 7) [111, 4, 0, 7, 1, 0, 0] :=
  rdB_row (cs := [111, 4, 0, 7, 1, 0, 0]) (heap_alloc_new w _) 7 rfl (by decide)
theorem rd_zeros (w : World) (n : Nat) (hn : n ≤ 1000) : RdB (w.alloc (.cells (u8s (zerosB n)) 5)) (.slice (some ⟨w.heap.size, 0, none⟩) n n) (zerosB n) :=
  rdB_row (cs := zerosB n) (heap_alloc_new w _) n (zerosB_length n) (by unfold maxLen; omega)
theorem bytes_zeros (n : Nat) : Bytes (zerosB n) := fun i => by
  unfold ith zerosB
  rw [List.getElem?_replicate]
  split <;> simp
set_option maxHeartbeats 8000000 in
set_option maxRecDepth 100000 in
theorem alive8 (w : World) (hG0 : GlobW w) : Calls Tryz.prog 48 #[] w fun e w' => e = .returned (.bool true) ∧ Below w.heap.size w w' := by
  have hS := Lib.hid (Below.refl w.heap.size w)
  have hG := Lib.hid hG0
  obtain ⟨B, b1, b2, b3, hB⟩ := signed5
  have hsg := Lib.hid hB
  have h1 := Lib.hid (fun (wz : World) (hg : GlobW wz) => (show Calls Tryz.prog 47 #[.slice none 0 0] wz fun e w' => e = .returned (.int .u8 2) ∧ Below wz.heap.size wz w' from by
    have h := verdict_any [] (.slice none 0 0) wz (.inl ⟨none, 0, rfl, fun _ => rfl, rfl⟩) bytes_nil hg
    rw [vd_nil] at h; exact h))
  have h2 := Lib.hid (fun (wz : World) (hg : GlobW wz) => (show Calls Tryz.prog 47 #[.slice (some ⟨wz.heap.size, 0, none⟩) 401 401] (wz.alloc (.cells (u8s (zerosB 401)) 5)) fun e w' => e = .returned (.int .u8 3) ∧ Below wz.heap.size wz w' from by
    have h := verdict_any (zerosB 401) _ _ (rd_zeros wz 401 (by decide)) (bytes_zeros 401) (hg.mono (below_a _ _))
    rw [vd_401] at h
    exact h.mono fun e w' ⟨he, hb⟩ => ⟨he, (below_a wz _).trans (hb.mono (by simp))⟩))
  have h3 := Lib.hid (fun (wz : World) (hg : GlobW wz) => (show Calls Tryz.prog 47 #[.slice (some ⟨wz.heap.size, 0, none⟩) 7 7] (wz.alloc (.cells #[.int .u8 111, .int .u8 4, .int .u8 0, .int .u8 7, .int .u8 1, .int .u8 0, .int .u8 0] 5)) fun e w' => e = .returned (.int .u8 4) ∧ Below wz.heap.size wz w' from by
    have h := verdict_any [111, 4, 0, 7, 1, 0, 0] _ _ (rd7 wz) bytes7 (hg.mono (below_a _ _))
    rw [vd_bad] at h
    exact h.mono fun e w' ⟨he, hb⟩ => ⟨he, (below_a wz _).trans (hb.mono (by simp))⟩))
  have h4 := Lib.hid (fun (wz : World) (v : Value) (h : RdB wz v B) (hg : GlobW wz) => (show Calls Tryz.prog 83 #[v] wz fun e w' => e = .returned (.bool true) ∧ Below wz.heap.size wz w' from by
    have h := judgeFine_any B v wz h b3 hg
    rw [b1] at h
    exact h))
  have hmk : ∀ wz : World, (Instr.makeSlice 83 (.int .i64 401) (.int .i64 401)).run Tryz.prog wz = .ok (.slice (some ⟨wz.heap.size, 0, none⟩) 401 401) (wz.alloc (.cells (u8s (zerosB 401)) 5)) := fun wz => run_makeB (P := Tryz.prog) wz 83 5 Tryz.underlying83 (by kernel_rfl) 401 401 (Nat.le_refl _) (by decide)
  clear hG0 hB b1 b2 b3
  generalize B.length = NB at *
  go_enter Tryz.func48, Tryz.ntmps48
  go_wp2_with (first
    | (go_at_call 47; (with_reducible refine (h1.out _ (hG.out.mono hS.out)).mono ?_); rintro e w4 ⟨rfl, q2⟩; replace hS := Lib.hid (hS.out.trans (Below.mono q2 hS.out.size)); clear q2)
    | (go_at_call 47; (with_reducible refine (h2.out _ (hG.out.mono hS.out)).mono ?_); rintro e w4 ⟨rfl, q2⟩; replace hS := Lib.hid (hS.out.trans (Below.mono q2 hS.out.size)); clear q2)
    | (go_at_call 47; (with_reducible refine (h3.out _ (hG.out.mono hS.out)).mono ?_); rintro e w4 ⟨rfl, q2⟩; replace hS := Lib.hid (hS.out.trans (Below.mono q2 hS.out.size)); clear q2)
    | (go_at_call 44; (with_reducible refine (hsg.out _ (hG.out.mono hS.out)).mono ?_); rintro e w4 ⟨xa, xc, rfl, q1, q2⟩; have hx := Lib.hid q1; replace hS := Lib.hid (hS.out.trans (Below.mono q2 hS.out.size)); clear q1 q2)
    | (go_at_call 83; (with_reducible refine (h4.out _ _ hx.out (hG.out.mono hS.out)).mono ?_); rintro e w4 ⟨rfl, q2⟩; replace hS := Lib.hid (hS.out.trans (Below.mono q2 hS.out.size)); clear q2))
  go_ret
  exact ⟨rfl, hS.out⟩
end Go.Proofs.YtnknkiiikeefgaaGreatDoor.wir.val

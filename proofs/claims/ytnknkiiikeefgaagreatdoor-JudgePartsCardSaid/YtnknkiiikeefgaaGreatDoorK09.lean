/- Layer 8: verdicts: contracts of package judge. -/
import Derived.Test.YtnknkiiikeefgaaGreatDoorK07
namespace Go.Proofs.YtnknkiiikeefgaaGreatDoor.wir.val
open Go.RowKit Go.YtnknkiiikeefgaaGreatDoor
set_option linter.unusedVariables false
theorem setRow_same {w : World} {g : Nat} {cs : Array Value} {t : TypeId} {fr : Nat × Nat} (h : w.heap[g]? = some (.cells cs t fr)) : w.setRow g cs = w := by
  have e : (w.setRow g cs).heap = w.heap := by
    apply Array.ext_getElem?
    intro i
    by_cases hi : i = g
    · subst hi; rw [setRow_heap _ _ _ cs _ _ h, h]
    · exact setRow_other w g i cs hi
  unfold World.setRow at e ⊢
  simp only at e
  rw [e]
/-- A store of what lies there already. -/
theorem qa_store_same {P : Program} {C : World → Prop} {o : Oper} {a : Act} (ty : TypeId) (x y : Operand) (ho : o.op = .store ty x y) (g : Nat) (cs : Array Value) (hx : a.eval x = .pointer (some ⟨g, 0, none⟩)) (hy : a.eval y = .agg cs) (t : TypeId)
    (hC : ∀ w, C w → w.heap[g]? = some (.cells cs t (0, 0))) (hi : (P.info? ty).map (·.size) = some cs.size) (h1 : cs.all (·.oneCell') = true) : ∀ w, C w → o.quietAt P a C w undef := by
  intro w hw
  unfold Oper.quietAt execOp
  simp only [ho, hx, hy, Instr.storeAt, Instr.sureAddr, Sem.run_bind, Sem.run_pure, Result.andThen_ok, run_storeVar_row w g t ty cs cs (hC w hw) hi rfl h1, setRow_same (hC w hw)]
  exact ⟨rfl, rfl⟩
theorem results_row_row_tmp {P : Program} {fn : Func} {p q u : Tmp} {ty ty2 : TypeId} (h : fn.results = #[.cell p ty, .cell q ty2, .tmp u]) (tmps : Array Value) (w : World) (g : Nat) (t : TypeId) (cs : Array Value) (fr : Nat × Nat) (d : TypeDesc)
    (g2 : Nat) (t2 : TypeId) (cs2 : Array Value) (fr2 : Nat × Nat) (d2 : TypeDesc)
    (hp : tmps.getD p undef = .pointer (some ⟨g, 0, none⟩)) (hg : w.heap[g]? = some (.cells cs t fr))
    (hu : P.underlying ty = some d) (hd : (match d with | .struct _ | .array _ _ => true | _ => false) = true) (hi : (P.info? ty).map (·.size) = some cs.size)
    (hp2 : tmps.getD q undef = .pointer (some ⟨g2, 0, none⟩)) (hg2 : w.heap[g2]? = some (.cells cs2 t2 fr2))
    (hu2 : P.underlying ty2 = some d2) (hd2 : (match d2 with | .struct _ | .array _ _ => true | _ => false) = true) (hi2 : (P.info? ty2).map (·.size) = some cs2.size) :
    (results fn tmps).run P w = .ok (.tuple #[.agg cs, .agg cs2, tmps.getD u undef]) w := by
  have hc : (results fn tmps).run P w =
      ((asAddr (tmps.getD p undef)).run P w).andThen fun a w₁ => ((loadVar ty a).run P w₁).andThen fun x w₂ => ((asAddr (tmps.getD q undef)).run P w₂).andThen fun b w₃ => ((loadVar ty2 b).run P w₃).andThen fun y w₄ => .ok (.tuple #[x, y, tmps.getD u undef]) w₄ := by
    simp only [results, h]
    simp [Sem.run_bind, Result.andThen]
  rw [hc, hp, hp2]
  have hl := run_loadVar_row (P := P) w g t ty cs fr d hg hu hd hi
  have hl2 := run_loadVar_row (P := P) w g2 t2 ty2 cs2 fr2 d2 hg2 hu2 hd2 hi2
  simp [asAddr, hl, hl2]
/-- The verdict on bytes. -/
def vd (l : List Int) : Int := if 400 < l.length then 3 else match decO l with
  | none => 2
  | some o => if verO o = 0 then 0 else 4
def ofPost (w : World) (l : List Int) (e : Ending) (w' : World) : Prop :=
  Below w.heap.size w w' ∧ ((vd l ≠ 0 ∧ e = .returned (.tuple #[.agg (zO.c (.slice none 0 0)), .agg (u8s (zerosB 32)), .int .u8 (vd l)])) ∨
    ∃ (o : Od) (a : Option Addr) (c : Nat), vd l = 0 ∧ l.length ≤ 400 ∧ decO l = some o ∧ verO o = 0 ∧ e = .returned (.tuple #[.agg (o.c (.slice a o.n c)), .agg (u8s (shaF l)), .int .u8 0]) ∧ HeldI w.heap.size w' (.slice a o.n c) o.n o.F)
theorem ofPost_eq {w w' : World} {l : List Int} {e e' : Ending} (h : ofPost w l e w') (he : e' = e) : ofPost w l e' w' := he ▸ h
theorem zid_info : (Tryz.prog.info? 24).map (·.size) = some (u8s (zerosB 32)).size := by rw [u8s_size, zerosB_length]; kernel_rfl
set_option maxHeartbeats 4000000 in
set_option maxRecDepth 100000 in
theorem judgeOf_any (l : List Int) (bv : Value) (w : World) (hr : RdB w bv l) (hl : Bytes l) (hG0 : GlobW w) :
    Calls Tryz.prog 45 #[bv] w (ofPost w l) := by
  obtain ⟨ba, bc, rfl⟩ := hr.slice
  obtain ⟨N, hN⟩ : ∃ N, l.length = N := ⟨_, rfl⟩
  rw [hN] at hr ⊢
  obtain ⟨W, hW⟩ : ∃ W, W = (w.alloc (.cells (zO.c (.slice none 0 0)) 35)).alloc (.cells (u8s (zerosB 32)) 24) := ⟨_, rfl⟩
  have hr0 : W.heap[w.heap.size]? = some (.cells (zO.c (.slice none 0 0)) 35 (0, 0)) := by rw [hW]; exact rowB (heap_alloc_new w _) (below_a _ _) (by simp)
  have hr1 : W.heap[w.heap.size + 1]? = some (.cells (u8s (zerosB 32)) 24 (0, 0)) := by rw [hW]; exact hn2 w _ _
  have hb0 : Below w.heap.size w W := by rw [hW]; exact ((Below.refl w.heap.size w).alloc (Nat.le_refl _) _).alloc (by simp) _
  have hsz : W.heap.size = w.heap.size + 2 := by rw [hW]; simp
  have hS := Lib.hid hb0
  have r0 := Lib.hid hr0
  have r1 := Lib.hid hr1
  have bw := Lib.hid hr
  have hG := Lib.hid hG0
  have zi := Lib.hid zid_info
  have hlt := Lib.hid (show w.heap.size + 2 ≤ W.heap.size by omega)
  clear hr0 hr1 hb0 hr hG0 hsz
  have hno : ∀ (v : Int), vd l = v → v ≠ 0 → ∀ w9, Below w.heap.size w w9 → ofPost w l (.returned (.tuple #[.agg (zO.c (.slice none 0 0)), .agg (u8s (zerosB 32)), .int .u8 v])) w9 := fun v hv h0 w9 h9 => ⟨h9, .inl ⟨by rw [hv]; exact h0, by rw [hv]⟩⟩
  by_cases hbig : 400 < N
  · have i1 : (400 : Int) < (N : Int) := by omega
    have hno := Lib.hid (hno 3 (by unfold vd; rw [if_pos (by rw [hN]; exact hbig)]) (by decide))
    clear hl hN
    go_enter Tryz.func45, Tryz.ntmps45
    go_upto_region 1 with fail
    change Code.wp _ _ _ _ ((w.alloc (.cells (zO.c (.slice none 0 0)) 35)).alloc (.cells (u8s (zerosB 32)) 24))
    rw [← hW]
    clear hW
    go_wp2_with (first
      | (refine wpList_store_row rfl 35 _ _ rfl w.heap.size (zO.c (.slice none 0 0)) rfl rfl 35 _ r0.out info_op rfl (op_one zO _ _ _) ?_; rw [setRow_same r0.out])
      | (refine wpList_store_row rfl 24 _ _ rfl (w.heap.size + 1) (u8s (zerosB 32)) rfl (by kernel_rfl) 24 _ r1.out zi.out rfl (u8s_one _) ?_; rw [setRow_same r1.out]))
    exact bodyPost_ret (results_row_row_tmp rfl _ _ w.heap.size 35 _ _ _ (w.heap.size + 1) 24 _ _ _ rfl r0.out Tryz.underlying35 rfl info_op rfl r1.out Tryz.underlying24 rfl zi.out) rfl (ofPost_eq (hno.out _ hS.out) rfl)
  have i1 : ¬ (400 : Int) < (N : Int) := by omega
  have hN4 : ¬ 400 < l.length := by rw [hN]; exact hbig
  cases hd : decO l with
  | none =>
    have hno := Lib.hid (hno 2 (by unfold vd; rw [if_neg hN4, hd]) (by decide))
    have hD := Lib.hid (fun (wz : World) (h : RdB wz (.slice ba N bc) l) => (opDecode_any l _ wz h hl (by omega)).mono (R' := fun e w' => e = .returned (.tuple #[.agg (zO.c (.slice none 0 0)), .int .i64 12]) ∧ Below wz.heap.size wz w') (by
      rintro e w' ⟨hb, hq⟩
      rw [hd] at hq
      rcases hq with ⟨_, he⟩ | ⟨p, a, c, hq, _⟩
      · exact ⟨he, hb⟩
      · cases hq))
    clear hl hN hN4 hd
    go_enter Tryz.func45, Tryz.ntmps45
    go_upto_region 1 with fail
    change Code.wp _ _ _ _ ((w.alloc (.cells (zO.c (.slice none 0 0)) 35)).alloc (.cells (u8s (zerosB 32)) 24))
    rw [← hW]
    clear hW
    go_wp2_with (first
      | (go_at_call 52; (with_reducible refine (hD.out _ (bw.out.mono hS.out)).mono ?_); rintro e w4 ⟨rfl, q2⟩; replace r0 := Lib.hid (rowB r0.out q2 (Array.getElem?_eq_some_iff.1 r0.out).1); replace r1 := Lib.hid (rowB r1.out q2 (Array.getElem?_eq_some_iff.1 r1.out).1); replace hS := Lib.hid (hS.out.trans (Below.mono q2 hS.out.size)); clear q2)
      | (refine wpList_store_row rfl 35 _ _ rfl w.heap.size (zO.c (.slice none 0 0)) rfl rfl 35 _ r0.out info_op rfl (op_one zO _ _ _) ?_; rw [setRow_same r0.out])
      | (refine wpList_store_row rfl 24 _ _ rfl (w.heap.size + 1) (u8s (zerosB 32)) rfl (by kernel_rfl) 24 _ r1.out zi.out rfl (u8s_one _) ?_; rw [setRow_same r1.out]))
    exact bodyPost_ret (results_row_row_tmp rfl _ _ w.heap.size 35 _ _ _ (w.heap.size + 1) 24 _ _ _ rfl r0.out Tryz.underlying35 rfl info_op rfl r1.out Tryz.underlying24 rfl zi.out) rfl (ofPost_eq (hno.out _ hS.out) rfl)
  | some o =>
    obtain ⟨e1, fo, c0, hF⟩ := decO_back hl hd
    have hD := Lib.hid (fun (wz : World) (h : RdB wz (.slice ba N bc) l) => (opDecode_any l _ wz h hl (by omega)).mono (R' := fun e w' => ∃ (a : Option Addr) (c : Nat), e = .returned (.tuple #[.agg (o.c (.slice a o.n c)), .int .i64 0]) ∧ HeldI wz.heap.size w' (.slice a o.n c) o.n o.F ∧ Below wz.heap.size wz w') (by
      rintro e w' ⟨hb, hq⟩
      rw [hd] at hq
      rcases hq with ⟨hq, _⟩ | ⟨p, a, c, hq, he, hi⟩
      · cases hq
      · obtain rfl := Option.some.inj hq
        exact ⟨a, c, he, hi, hb⟩))
    have hV := Lib.hid (fun (wz : World) (v : Value) (h : RdI wz v o.n o.F) (hg : GlobW wz) => opVerify_any o fo v wz h hg)
    have hI := Lib.hid (fun (wz : World) (v : Value) (h : RdI wz v o.n o.F) (hg : GlobW wz) => (show Calls Tryz.prog 13 #[.agg (o.c v)] wz fun e w' => e = .returned (.tuple #[.agg (u8s (shaF l)), .int .i64 0]) ∧ Below wz.heap.size wz w' from by
      obtain ⟨Tg, Tf, g1, g2⟩ := hg
      rw [← e1]
      exact opID_ok o fo v wz h c0 g1 g2))
    have hyes := fun (h0 : verO o = 0) (a : Option Addr) (c : Nat) (w9 : World) (h9 : Below w.heap.size w w9) (hh : HeldI w.heap.size w9 (.slice a o.n c) o.n o.F) => (show ofPost w l (.returned (.tuple #[.agg (o.c (.slice a o.n c)), .agg (u8s (shaF l)), .int .u8 0])) w9 from
      ⟨h9, .inr ⟨o, a, c, by unfold vd; rw [if_neg hN4, hd]; simp only; rw [if_pos h0], by omega, hd, h0, rfl, hh⟩⟩)
    have hno4 := fun (h0 : ¬ verO o = 0) => hno 4 (by unfold vd; rw [if_neg hN4, hd]; simp only; rw [if_neg h0]) (by decide)
    have hDl : (shaF l).length = 32 := shaF_length _
    have di := Lib.hid (show (Tryz.prog.info? 24).map (·.size) = some (u8s (shaF l)).size by rw [u8s_size, hDl]; kernel_rfl)
    have ds := Lib.hid (show (u8s (zerosB 32)).size = (u8s (shaF l)).size by rw [u8s_size, u8s_size, hDl, zerosB_length])
    clear hno hl hN hN4 hd e1 fo c0 hF hDl
    generalize shaF l = D at *
    generalize verO o = VE at *
    by_cases h0 : VE = 0
    · have hY := Lib.hid (hyes h0)
      clear hno4 hyes
      subst h0
      go_enter Tryz.func45, Tryz.ntmps45
      go_upto_region 1 with fail
      change Code.wp _ _ _ _ ((w.alloc (.cells (zO.c (.slice none 0 0)) 35)).alloc (.cells (u8s (zerosB 32)) 24))
      rw [← hW]
      clear hW
      go_upto_region 4 with (first
        | (go_at_call 52; (with_reducible refine (hD.out _ (bw.out.mono hS.out)).mono ?_); rintro e w4 ⟨pa, pc, rfl, q1, q2⟩; have hH := Lib.hid (heldI_lower q1 (Nat.le_of_lt (by have := hlt.out; omega : w.heap.size < W.heap.size))); have hH2 := Lib.hid q1; replace r0 := Lib.hid (rowB r0.out q2 (Array.getElem?_eq_some_iff.1 r0.out).1); replace r1 := Lib.hid (rowB r1.out q2 (Array.getElem?_eq_some_iff.1 r1.out).1); replace hS := Lib.hid (hS.out.trans (Below.mono q2 hS.out.size)); clear q1 q2)
        | (refine wpList_store_row rfl 35 _ _ rfl w.heap.size (o.c (.slice pa o.n pc)) rfl rfl 35 _ r0.out info_op rfl (op_one o pa o.n pc) ?_))
      have k0 := Lib.hid (setRow_heap _ _ _ (o.c (.slice pa o.n pc)) _ _ r0.out)
      have k1 := Lib.hid ((setRow_other w4 w.heap.size (w.heap.size + 1) (o.c (.slice pa o.n pc)) (by omega)).trans r1.out)
      have kS := Lib.hid (below_setRow' (g := w.heap.size) hS.out (Nat.le_refl _) (o.c (.slice pa o.n pc)))
      have kH := Lib.hid (heldI_setRow (k := w.heap.size) hH2.out (by have := hlt.out; omega) (o.c (.slice pa o.n pc)))
      clear r0 r1 hS hH hH2
      generalize w4.setRow w.heap.size (o.c (.slice pa o.n pc)) = w5 at *
      have xP := Lib.hid (show RdI w5 (.slice pa o.n pc) o.n o.F from kH.out w5 (fun _ _ _ => rfl) (Nat.le_refl _))
      go_upto_region 9 with (first
        | (refine wpList_load_row_g rfl 35 _ rfl w.heap.size rfl 35 (o.c (.slice pa o.n pc)) (0, 0) _ k0.out Tryz.underlying35 rfl info_op ?_)
        | (go_at_call 22; (with_reducible refine (hV.out _ _ xP.out (hG.out.mono kS.out)).mono ?_); rintro e w6 ⟨rfl, q2⟩; replace k0 := Lib.hid (rowB k0.out q2 (Array.getElem?_eq_some_iff.1 k0.out).1); replace k1 := Lib.hid (rowB k1.out q2 (Array.getElem?_eq_some_iff.1 k1.out).1); replace kS := Lib.hid (kS.out.trans (Below.mono q2 kS.out.size)); replace kH := Lib.hid (heldI_mono kH.out q2); replace xP := Lib.hid (xP.out.mono q2); clear q2)
        | (go_at_call 13; (with_reducible refine (hI.out _ _ xP.out (hG.out.mono kS.out)).mono ?_); rintro e w7 ⟨rfl, q2⟩; replace k0 := Lib.hid (rowB k0.out q2 (Array.getElem?_eq_some_iff.1 k0.out).1); replace k1 := Lib.hid (rowB k1.out q2 (Array.getElem?_eq_some_iff.1 k1.out).1); replace kS := Lib.hid (kS.out.trans (Below.mono q2 kS.out.size)); replace kH := Lib.hid (heldI_mono kH.out q2); replace xP := Lib.hid (xP.out.mono q2); clear q2)
        | (refine wpList_store_row rfl 24 _ _ rfl (w.heap.size + 1) (u8s D) rfl rfl 24 _ k1.out di.out ds.out (u8s_one _) ?_))
      have z1 := Lib.hid (setRow_heap _ _ _ (u8s D) _ _ k1.out)
      have z0 := Lib.hid ((setRow_other w7 (w.heap.size + 1) w.heap.size (u8s D) (by omega)).trans k0.out)
      have zS := Lib.hid (below_setRow' (g := w.heap.size + 1) kS.out (Nat.le_succ _) (u8s D))
      have zH := Lib.hid (heldI_setRow (k := w.heap.size + 1) kH.out (by have := hlt.out; omega) (u8s D))
      clear k0 k1 kS kH xP
      generalize w7.setRow (w.heap.size + 1) (u8s D) = w8 at *
      have lt0 := Lib.hid (Array.getElem?_eq_some_iff.1 z0.out).1
      have lt1 := Lib.hid (Array.getElem?_eq_some_iff.1 z1.out).1
      have y0 := Lib.hid (fun (w' : World) (h : Below w8.heap.size w8 w') => rowB z0.out h lt0.out)
      have y1 := Lib.hid (fun (w' : World) (h : Below w8.heap.size w8 w') => rowB z1.out h lt1.out)
      refine wp_region_quiet (C := fun w' => Below w8.heap.size w8 w') (by kernel_rfl) (by kernel_rfl) ((Below.refl _ _).drew) ?_
      simp only []
      refine wpq (.agg (o.c (.slice pa o.n pc))) rfl (quiet_row 35 _ rfl w.heap.size rfl 35 (o.c (.slice pa o.n pc)) (0, 0) _ y0.out Tryz.underlying35 rfl info_op) rfl (fun K hK => ?_); go_simp; refine hK _ ?_; clear hK K
      refine wpq (.agg (u8s D)) rfl (quiet_row 24 _ rfl (w.heap.size + 1) rfl 24 (u8s D) (0, 0) _ y1.out Tryz.underlying24 rfl di.out) rfl (fun K hK => ?_); go_simp; refine hK _ ?_; clear hK K
      refine wpq undef rfl (qa_store_same 35 _ _ rfl w.heap.size (o.c (.slice pa o.n pc)) rfl rfl 35 y0.out info_op (op_one o pa o.n pc)) rfl (fun K hK => ?_); go_simp; refine hK _ ?_; clear hK K
      refine wpq undef rfl (qa_store_same 24 _ _ rfl (w.heap.size + 1) (u8s D) rfl rfl 24 y1.out di.out (u8s_one _)) rfl (fun K hK => ?_); go_simp; refine hK _ ?_; clear hK K
      (go_big_quiet_want; go_big_quiet_op; first | go_big_quiet_on | (refine ⟨_, fun _ _ => rfl, ?_⟩; go_big_quiet_on))
      refine wpQuiet_nil ?_
      intro w9 h9
      have x0 := Lib.hid (y0.out w9 h9)
      have x1 := Lib.hid (y1.out w9 h9)
      have hfin := Lib.hid (hY.out pa pc w9 (zS.out.trans (h9.mono zS.out.size)) (heldI_lower (heldI_mono zH.out h9) (by have := hlt.out; omega)))
      clear h9
      go_wp2
      exact bodyPost_ret (results_row_row_tmp rfl _ _ w.heap.size 35 _ _ _ (w.heap.size + 1) 24 _ _ _ rfl x0.out Tryz.underlying35 rfl info_op rfl x1.out Tryz.underlying24 rfl di.out) rfl (ofPost_eq hfin.out rfl)
    · have hno := Lib.hid (hno4 h0)
      have hVb : (VE != 0) = true := by simpa using h0
      clear hno4 hyes h0
      go_enter Tryz.func45, Tryz.ntmps45
      go_upto_region 1 with fail
      change Code.wp _ _ _ _ ((w.alloc (.cells (zO.c (.slice none 0 0)) 35)).alloc (.cells (u8s (zerosB 32)) 24))
      rw [← hW]
      clear hW
      go_upto_region 4 with (first
        | (go_at_call 52; (with_reducible refine (hD.out _ (bw.out.mono hS.out)).mono ?_); rintro e w4 ⟨pa, pc, rfl, q1, q2⟩; have hH2 := Lib.hid q1; replace r0 := Lib.hid (rowB r0.out q2 (Array.getElem?_eq_some_iff.1 r0.out).1); replace r1 := Lib.hid (rowB r1.out q2 (Array.getElem?_eq_some_iff.1 r1.out).1); replace hS := Lib.hid (hS.out.trans (Below.mono q2 hS.out.size)); clear q1 q2)
        | (refine wpList_store_row rfl 35 _ _ rfl w.heap.size (o.c (.slice pa o.n pc)) rfl rfl 35 _ r0.out info_op rfl (op_one o pa o.n pc) ?_))
      have k0 := Lib.hid (setRow_heap _ _ _ (o.c (.slice pa o.n pc)) _ _ r0.out)
      have k1 := Lib.hid ((setRow_other w4 w.heap.size (w.heap.size + 1) (o.c (.slice pa o.n pc)) (by omega)).trans r1.out)
      have kS := Lib.hid (below_setRow' (g := w.heap.size) hS.out (Nat.le_refl _) (o.c (.slice pa o.n pc)))
      have kH := Lib.hid (heldI_setRow (k := w.heap.size) hH2.out (by have := hlt.out; omega) (o.c (.slice pa o.n pc)))
      clear r0 r1 hS hH2
      generalize w4.setRow w.heap.size (o.c (.slice pa o.n pc)) = w5 at *
      have xP := Lib.hid (show RdI w5 (.slice pa o.n pc) o.n o.F from kH.out w5 (fun _ _ _ => rfl) (Nat.le_refl _))
      clear kH
      go_upto_region 7 with (first
        | (refine wpList_load_row_g rfl 35 _ rfl w.heap.size rfl 35 (o.c (.slice pa o.n pc)) (0, 0) _ k0.out Tryz.underlying35 rfl info_op ?_)
        | (go_at_call 22; (with_reducible refine (hV.out _ _ xP.out (hG.out.mono kS.out)).mono ?_); rintro e w6 ⟨rfl, q2⟩; replace k0 := Lib.hid (rowB k0.out q2 (Array.getElem?_eq_some_iff.1 k0.out).1); replace k1 := Lib.hid (rowB k1.out q2 (Array.getElem?_eq_some_iff.1 k1.out).1); replace kS := Lib.hid (kS.out.trans (Below.mono q2 kS.out.size)); clear q2))
      have z0 := Lib.hid (setRow_heap _ _ _ (zO.c (.slice none 0 0)) _ _ k0.out)
      have z1 := Lib.hid ((setRow_other w6 w.heap.size (w.heap.size + 1) (zO.c (.slice none 0 0)) (by omega)).trans k1.out)
      have zS := Lib.hid (below_setRow' (g := w.heap.size) kS.out (Nat.le_refl _) (zO.c (.slice none 0 0)))
      go_wp2_with (first
        | (refine wpList_store_row rfl 35 _ _ rfl w.heap.size (zO.c (.slice none 0 0)) rfl rfl 35 _ k0.out info_op rfl (op_one zO _ _ _) ?_)
        | (refine wpList_store_row rfl 24 _ _ rfl (w.heap.size + 1) (u8s (zerosB 32)) rfl (by kernel_rfl) 24 _ z1.out zi.out rfl (u8s_one _) ?_; rw [setRow_same z1.out]))
      exact bodyPost_ret (results_row_row_tmp rfl _ _ w.heap.size 35 _ _ _ (w.heap.size + 1) 24 _ _ _ rfl z0.out Tryz.underlying35 rfl info_op rfl z1.out Tryz.underlying24 rfl zi.out) rfl (ofPost_eq (hno.out _ zS.out) rfl)
end Go.Proofs.YtnknkiiikeefgaaGreatDoor.wir.val

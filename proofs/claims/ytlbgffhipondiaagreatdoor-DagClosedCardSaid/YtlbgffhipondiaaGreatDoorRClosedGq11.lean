/- Texts that the row stands on, part 11. -/
import Derived.Test.YtlbgffhipondiaaGreatDoorRClosedGq10
namespace Go.Proofs.YtlbgffhipondiaaGreatDoor.wir.val
open Go.RowKit Go.YtlbgffhipondiaaGreatDoor
set_option linter.unusedVariables false
theorem rowK {w w' : World} {g : Nat} {o : Obj} (h : w.heap[g]? = some o) (hb : Below w.heap.size w w') : w'.heap[g]? = some o := (hb.block g (Array.getElem?_eq_some_iff.1 h).1).trans h
theorem storeBut {P : Program} {ops : Array Oper} {rest : List Oper} {o : Oper} {a : Act} {Q : Exit → Act → World → Prop} (w : World) (g : Nat) (old : Array Value) (hgd : o.guard = none) (ty : TypeId) (x y : Operand) (ho : o.op = .store ty x y)
    (cells : Array Value) (t : TypeId) (hg : w.heap[g]? = some (.cells old t (0, 0))) (hx : a.eval x = .pointer (some ⟨g, 0, none⟩)) (hy : a.eval y = .agg cells)
    (hi : (P.info? ty).map (·.size) = some cells.size) (hold : old.size = cells.size) (h1 : cells.all (·.oneCell') = true)
    (h : ∀ wx, wx.heap[g]? = some (.cells cells t (0, 0)) → w.grownBy wx (some g) → wpList P ops Q rest (a.put o.dst undef) wx) :
    wpList P ops Q (o :: rest) a w := by
  refine wpList_store_row hgd ty x y ho g cells hx hy t old hg hi hold h1 (h _ (setRow_heap _ _ _ _ _ _ hg) ?_)
  exact but_setRowG w g cells
theorem zO_small (L : List Od) (hs : ∀ i, i < L.length → (nthO L i).n ≤ 20) (hf : ∀ i, i < L.length → (nthO L i).Fit) (i : Nat) : (nthO L i).n ≤ 20 ∧ (nthO L i).key.size ≤ 1000000 ∧ (nthO L i).v.s.size ≤ 1000000 := by
  by_cases h : i < L.length
  · exact ⟨hs i h, (hf i h).key, (hf i h).v.s⟩
  · have e : nthO L i = zO := by unfold nthO; rw [List.getElem?_eq_none (by omega)]; rfl
    rw [e]
    exact ⟨by decide, by decide, by decide⟩
theorem rdI_off {w : World} {v : Value} {n : Nat} {F : List Int} (h : RdI w v n F) {r : Option Nat} (hr : r = none ∨ ∃ k, r = some k ∧ w.heap.size ≤ k) : OffB r v :=
  offB_new (r := none) h (fun b o n c _ _ e => by cases e) (by rcases hr with h | h; exact .inl h; exact .inr h)
theorem own_base {B z n : Nat} {e : TypeId} {w : World} {v : Value} {xs : List Value} (h : w.ownsRow B e z v n xs) : v.ownBlock = none ∨ ∃ k, v.ownBlock = some k ∧ B ≤ k := by
  rcases ho : v.ownBlock with _ | k
  · exact .inl rfl
  · exact .inr ⟨k, rfl, (World.ownsRow.lt h k ho).1⟩
theorem gC_one (a b : Option Addr) (n c m d : Nat) : (gC (.slice a n c) (.slice b m d)).all (·.oneCell') = true := by simp [gC, Value.oneCell']
/-- The error of Add. -/
def addE (F : List Int) (n : Nat) (L : List Od) (o : Od) (e0 : Int) : Int :=
  if e0 ≠ 0 then e0 else if verO o ≠ 0 then verO o else if memF F n (shaF (encO o)) = true then 14 else if allF F n o.F o.n = false then 40 else if L.length = 60 then 18 else 0
def addD (F : List Int) (n : Nat) (L : List Od) (o : Od) (e0 : Int) (e : Ending) (w w' : World) : Prop :=
  (addE F n L o e0 ≠ 0 ∧ e = .returned (.tuple #[.agg (gC (.slice none 0 0) (.slice none 0 0)), .agg (u8s (zerosB 32)), .int .i64 (addE F n L o e0)])) ∨
  (addE F n L o e0 = 0 ∧ ∃ (iv ov : Value) (p : Nat), PlaceAt F n (shaF (encO o)) p ∧ e = .returned (.tuple #[.agg (gC iv ov), .agg (u8s (shaF (encO o))), .int .i64 0]) ∧ OwnI w.heap.size 24 w' iv (n + 1) (insF F p (shaF (encO o))) ∧ OwnP w.heap.size iv.ownBlock w' ov (insL L p o))
def c3A : List (List Nat) := [[], [0], [], [], [], [0, 1, 2, 3, 4], [], [0, 1, 2, 3, 4, 5], [0, 1, 2, 3, 4, 5, 6, 7], [0, 1, 2, 3, 4, 5, 6, 7, 8]]
def c3U : List (List Nat) := [[], [0], [], [], [], [1, 2, 3, 4], [], [5]]
def c3F (B g n p : Nat) (F x : List Int) (L : List Od) (o : Od) (iv ov pv : Value) : Nat → Value → World → Prop
  | 0, v, _ => v = .agg (gC iv ov)
  | 1, v, w => ∃ ia ic oa oc, v = .agg (gC (.slice ia n ic) (.slice oa n oc)) ∧ OwnI B 24 w (.slice ia n ic) n F ∧ OwnP B (Value.slice ia n ic).ownBlock w (.slice oa n oc) L
  | 2, v, _ => v = .int .i64 (p : Int)
  | 3, v, _ => v = .agg (u8s x)
  | 4, v, _ => v = .agg (o.c pv)
  | 5, v, w => ∃ ua uc va vc, v = .agg (gC (.slice ua (n + 1) uc) (.slice va (n + 1) vc)) ∧ OwnI B 24 w (.slice ua (n + 1) uc) (n + 1) (insF F p x) ∧ OwnP B (Value.slice ua (n + 1) uc).ownBlock w (.slice va (n + 1) vc) (insL L p o)
  | 6, v, _ => v = .agg (u8s x)
  | _, _, w => ∃ ua uc va vc, w.heap[g]? = some (.cells (gC (.slice ua (n + 1) uc) (.slice va (n + 1) vc)) 41 (0, 0)) ∧ OwnI B 24 w (.slice ua (n + 1) uc) (n + 1) (insF F p x) ∧ OwnP B (Value.slice ua (n + 1) uc).ownBlock w (.slice va (n + 1) vc) (insL L p o)
def c3G (B g i : Nat) (a b : World) : Prop := if i = 7 then a.grownBy b (some g) else (Below B a b ∧ (i ≠ 1 → i ≠ 5 → a = b))
/-- All but the block g is as' it was. -/
def c3I (g : Nat) (a b : World) : Prop := Below g a b ∧ a.heap.size ≤ b.heap.size ∧ ∀ k, k < a.heap.size → k ≠ g → b.heap[k]? = a.heap[k]?
theorem c3I_row {g k : Nat} {a b : World} {o : Obj} (h : c3I g a b) (hr : a.heap[k]? = some o) (hne : k ≠ g) : b.heap[k]? = some o := (h.2.2 k (Array.getElem?_eq_some_iff.1 hr).1 hne).trans hr
theorem c3I_next {g i : Nat} {w a b : World} (hgl : g < w.heap.size) (h : c3I g w a) (hg : c3G w.heap.size g i a b) : c3I g w b := by
  unfold c3G at hg
  by_cases h7 : i = 7
  · rw [if_pos h7] at hg
    refine ⟨Below.grown h.1 hg (by have := h.2.1; omega) (fun k hk => by cases hk; omega), Nat.le_trans h.2.1 hg.size, fun k hk hne => (hg.block k (by have := h.2.1; omega) (fun e => hne (Option.some.inj e))).trans (h.2.2 k hk hne)⟩
  · rw [if_neg h7] at hg
    exact ⟨h.1.trans (hg.1.mono (by omega)), Nat.le_trans h.2.1 hg.1.size, fun k hk hne => (hg.1.block k hk).trans (h.2.2 k hk hne)⟩
theorem c3_keep {B g n p : Nat} {F x : List Int} {L : List Od} {o : Od} {iv ov pv : Value} (i j : Nat) (v : Value) (a b : World) (hi : i < 8) (hj : j < 8) (ha : fxAfter c3A i j = true) (hn : fxNeed 8 c3A c3U [6, 7] i j = true) (h : c3F B g n p F x L o iv ov pv j v a) (hg : c3G B g i a b) : c3F B g n p F x L o iv ov pv j v b := by
  match j, hj with
  | 0, _ => exact h
  | 2, _ => exact h
  | 3, _ => exact h
  | 4, _ => exact h
  | 6, _ => exact h
  | 1, _ =>
    have h1 : i ≠ 1 := by rintro rfl; revert ha; decide
    have h5 : i ≠ 5 := by rintro rfl; revert hn; decide
    have h7 : i ≠ 7 := by rintro rfl; revert hn; decide
    unfold c3G at hg
    rw [if_neg h7] at hg
    rw [← hg.2 h1 h5]; exact h
  | 5, _ =>
    have h1 : i ≠ 1 := by rintro rfl; revert ha; decide
    have h5 : i ≠ 5 := by rintro rfl; revert ha; decide
    have h7 : i ≠ 7 := by rintro rfl; revert hn; decide
    unfold c3G at hg
    rw [if_neg h7] at hg
    rw [← hg.2 h1 h5]; exact h
  | 7, _ =>
    have h1 : i ≠ 1 := by rintro rfl; revert ha; decide
    have h5 : i ≠ 5 := by rintro rfl; revert ha; decide
    have h7 : i ≠ 7 := by rintro rfl; revert ha; decide
    unfold c3G at hg
    rw [if_neg h7] at hg
    rw [← hg.2 h1 h5]; exact h
  | j' + 8, hj' => exact absurd hj' (by omega)
theorem c3_step7 {ops : Array Oper} {op : Oper} {a : Act} {B g n p : Nat} {F x : List Int} {L : List Od} {o : Od} {iv ov pv v5 : Value} {w : World} (hg : op.guard = none) (ho : op.op = .store 41 (.tmp 4) (.tmp 58)) (e1 : a.eval (.tmp 4) = .pointer (some ⟨g, 0, none⟩)) (e2 : a.eval (.tmp 58) = v5) (h5 : c3F B g n p F x L o iv ov pv 5 v5 w)
    (hr : w.heap[g]? = some (.cells (gC (.slice none 0 0) (.slice none 0 0)) 41 (0, 0))) (hl : g < B) : FxStep Tryz.prog ops op a w fun v w' => c3F B g n p F x L o iv ov pv 7 v w' ∧ c3G B g 7 w w' := by
  obtain ⟨ua, uc, va, vc, h5, z1, z2⟩ : ∃ ua uc va vc, v5 = .agg (gC (.slice ua (n + 1) uc) (.slice va (n + 1) vc)) ∧ OwnI B 24 w (.slice ua (n + 1) uc) (n + 1) (insF F p x) ∧ OwnP B (Value.slice ua (n + 1) uc).ownBlock w (.slice va (n + 1) vc) (insL L p o) := h5
  rw [h5] at e2
  have hb := but_setRowG w g (gC (.slice ua (n + 1) uc) (.slice va (n + 1) vc))
  refine fxu_store 41 (.tmp 4) (.tmp 58) hg ho g (gC (.slice ua (n + 1) uc) (.slice va (n + 1) vc)) e1 e2 41 _ hr info_g rfl (gC_one _ _ _ _ _ _) ⟨?_, ?_⟩
  · exact ⟨ua, uc, va, vc, setRow_heap _ _ _ _ _ _ hr, World.ownsRow.kept z1 hb (.inr (own_low z1 hl)), z2.low hl hb⟩
  · unfold c3G; rw [if_pos rfl]; exact hb
theorem c3_cong {B g n p : Nat} {F x : List Int} {L : List Od} {o : Od} {iv ov pv : Value} (j : Nat) (vs vs' : Nat → Value) (w : World) (h : vs j = vs' j) (hp : c3F B g n p F x L o iv ov pv j (vs j) w) : c3F B g n p F x L o iv ov pv j (vs' j) w := by rw [← h]; exact hp
set_option maxHeartbeats 32000000 in
set_option maxRecDepth 100000 in
theorem dagAdd_any (F : List Int) (n : Nat) (L : List Od) (iv ov pv : Value) (o : Od) (e0 : Int) (w : World) (hI : RdI w iv n F) (hF : Bytes F) (hO : RdO w ov L) (hn0 : n ≤ 1000) (hm : L.length ≤ 1000)
    (hfit : ∀ i, i < L.length → (nthO L i).Fit) (hsm : ∀ i, i < L.length → (nthO L i).n ≤ 20) (hG0 : GlobW w) (he0 : ChkG F n L e0) (fo : o.Fit) (hon : o.n ≤ 20) (hp : RdI w pv o.n o.F) :
    Calls Tryz.prog 18 #[.agg (gC iv ov), .agg (o.c pv)] w fun e w' => addD F n L o e0 e w w' ∧ Below w.heap.size w w' := by
  obtain ⟨W, hW⟩ : ∃ W, W = (((w.alloc (.cells (gC iv ov) 41)).alloc (.cells (o.c pv) 35)).alloc (.cells (gC (.slice none 0 0) (.slice none 0 0)) 41)).alloc (.cells (u8s (zerosB 32)) 24) := ⟨_, rfl⟩
  have hB := Lib.hid (show Below w.heap.size w W by rw [hW]; exact ((((Below.refl w.heap.size w).alloc (Nat.le_refl _) _).alloc (by simp) _).alloc (by simp; omega) _).alloc (by simp; omega) _)
  have r0 := Lib.hid (show W.heap[w.heap.size]? = some (.cells (gC iv ov) 41 (0, 0)) by rw [hW]; exact rowK (rowK (rowK (heap_alloc_new w _) (below_a _ _)) (below_a _ _)) (below_a _ _))
  have r1 := Lib.hid (show W.heap[w.heap.size + 1]? = some (.cells (o.c pv) 35 (0, 0)) by rw [hW]; exact rowK (rowK (hn2 w _ _) (below_a _ _)) (below_a _ _))
  have r2 := Lib.hid (show W.heap[w.heap.size + 1 + 1]? = some (.cells (gC (.slice none 0 0) (.slice none 0 0)) 41 (0, 0)) by rw [hW]; exact rowK (hn3 w _ _ _) (below_a _ _))
  have r3 := Lib.hid (show W.heap[w.heap.size + 1 + 1 + 1]? = some (.cells (u8s (zerosB 32)) 24 (0, 0)) by rw [hW]; have h := heap_alloc_new (((w.alloc (.cells (gC iv ov) 41)).alloc (.cells (o.c pv) 35)).alloc (.cells (gC (.slice none 0 0) (.slice none 0 0)) 41)) (.cells (u8s (zerosB 32)) 24); rw [World.size_alloc, World.size_alloc, World.size_alloc] at h; exact h)
  have hx := Lib.hid (shaF_length (encO o))
  have hxb := shaF_bytes (encO o)
  have hI' := Lib.hid hI; have hO' := Lib.hid hO; have hp' := Lib.hid hp
  have hck := Lib.hid (fun (wz : World) (hb : Below w.heap.size w wz) => dagCheck_any F n L iv ov e0 wz (hI.mono hb) hF (hO.mono hb) (by omega) (by omega) hfit (hG0.mono hb) he0)
  have hvo := Lib.hid (fun (h : verO o = 0) (wz : World) (hb : Below w.heap.size w wz) => verified_ok o fo pv wz (hp.mono hb) (hG0.mono hb) h)
  have hvb := Lib.hid (fun (h : verO o ≠ 0) (wz : World) (hb : Below w.heap.size w wz) => verified_bad o fo pv wz (hp.mono hb) (hG0.mono hb) h)
  have hpl := Lib.hid (fun (h : riseF F n = true) (wz : World) (hb : Below w.heap.size w wz) => place_any F n iv (shaF (encO o)) wz (hI.mono hb) hF (by omega) h hx.out hxb)
  have hal := Lib.hid (fun (h : riseF F n = true) (wz : World) (hb : Below w.heap.size w wz) => hasAll_any F n iv o.F o.n pv wz (hI.mono hb) hF (by omega) h (hp.mono hb) fo.F (by omega))
  have hcg := Lib.hid (fun (wz : World) (hb : Below w.heap.size w wz) => copiedGraph_any F n L iv ov wz (hI.mono hb) (hO.mono hb) hn0 hm (zO_small L hsm hfit))
  have ix := Lib.hid (show (Tryz.prog.info? 24).map (·.size) = some (u8s (shaF (encO o))).size by rw [u8s_size, hx.out]; kernel_rfl)
  have i0 := Lib.hid (show (Tryz.prog.info? 24).map (·.size) = some (u8s (zerosB 32)).size by kernel_rfl)
  have io := Lib.hid (show (Tryz.prog.info? 35).map (·.size) = some (o.c pv).size from info_op)
  have s32 := Lib.hid (show (32 : Nat) = (u8s (shaF (encO o))).size by rw [u8s_size, hx.out])
  have hz := Lib.hid (fun h : e0 = 0 => (chkG_zero (show ChkG F n L 0 by rw [← h]; exact he0)))
  have hfk := Lib.hid (And.intro fo.key fo.v.s)
  have hn' := Lib.hid hn0; have hm' := Lib.hid hm; have hon' := Lib.hid hon
  obtain ⟨ia, ic, rfl⟩ := hI.slice
  obtain ⟨oa, oc, rfl⟩ := hO.slice
  obtain ⟨pa, pc, rfl⟩ := hp.slice
  clear hI hO hp hF hfit hsm hG0 hxb he0 fo hn0 hm hon
  obtain ⟨x, hxe⟩ : ∃ x, x = shaF (encO o) := ⟨_, rfl⟩
  have hD : ∀ e w', addD F n L o e0 e w w' = addD F n L o e0 e w w' := fun _ _ => rfl
  obtain ⟨E, hEe⟩ : ∃ E, addE F n L o e0 = E := ⟨_, rfl⟩
  have hE := Lib.hid hEe
  unfold addE at hEe
  unfold addD
  rw [hE.out]
  rw [← hxe] at hx hvo hpl ix s32 hEe ⊢
  have hxe' := Lib.hid hxe
  clear hxe hD
  obtain ⟨m, hmL⟩ : ∃ m, L.length = m := ⟨_, rfl⟩
  have hmL' := Lib.hid hmL
  rw [hmL] at r0 hck hO' hcg hW hEe hm' ⊢
  have hz := Lib.hid (show e0 = 0 → n = m ∧ m ≤ 60 ∧ riseF F n = true from fun h => ⟨by rw [← hmL]; exact (name_iff.1 (hz.out h).2.1).1, by rw [← hmL]; exact (hz.out h).1, (hz.out h).2.2.1⟩)
  clear hmL
  by_cases h0 : e0 = 0
  rotate_left
  · rw [if_pos h0] at hEe
    subst hEe
    have hx0 : (e0 != 0) = true := by simpa using h0
    have h0' := Lib.hid h0
    clear h0
    go_enter Tryz.func18, Tryz.ntmps18
    go_upto_region 1 with fail
    rw [show ∀ y z : Array Value, y = gC (.slice none 0 0) (.slice none 0 0) → z = u8s (zerosB 32) → ((((w.alloc (.cells (gC (.slice ia n ic) (.slice oa m oc)) 41)).alloc (.cells (o.c (.slice pa o.n pc)) 35)).alloc (.cells y 41)).alloc (.cells z 24)) = W from fun y z hy hz => by rw [hy, hz, hW]]
    rotate_left
    · rfl
    · kernel_rfl
    clear hW
    go_wp2_with (first | (refine wpList_load_row_g rfl 41 _ rfl w.heap.size rfl 41 (gC (.slice ia n ic) (.slice oa m oc)) (0, 0) _ r0.out Tryz.underlying41 rfl info_g ?_) | (refine wpList_load_row_g rfl 35 _ rfl (w.heap.size + 1) rfl 35 (o.c (.slice pa o.n pc)) (0, 0) _ r1.out Tryz.underlying35 rfl io.out ?_) | (go_at_call 24; (with_reducible refine (hck.out _ hB.out).mono ?_); rintro e9 w4 ⟨rfl, z2⟩; replace r0 := Lib.hid (rowK r0.out z2); replace r1 := Lib.hid (rowK r1.out z2); replace r2 := Lib.hid (rowK r2.out z2); replace r3 := Lib.hid (rowK r3.out z2); replace hB := Lib.hid (hB.out.trans (z2.mono hB.out.size)); clear z2) | (refine storeBut _ (w.heap.size + 1 + 1) _ rfl 41 _ _ rfl (gC (.slice none 0 0) (.slice none 0 0)) 41 r2.out rfl rfl info_g rfl (gC_one _ _ _ _ _ _) ?_; intro w9 hr9 hb9; replace r3 := Lib.hid (grown_rowG hb9 r3.out (by simp)); replace r2 := Lib.hid hr9; replace hB := Lib.hid (Below.grown hB.out hb9 hB.out.size (fun k hk => by cases hk; omega)); clear hr9 hb9) | (refine storeBut _ (w.heap.size + 1 + 1 + 1) _ rfl 24 _ _ rfl (u8s (zerosB 32)) 24 r3.out rfl rfl i0.out rfl (u8s_one _) ?_; intro w9 hr9 hb9; replace r2 := Lib.hid (grown_rowG hb9 r2.out (by simp)); replace r3 := Lib.hid hr9; replace hB := Lib.hid (Below.grown hB.out hb9 hB.out.size (fun k hk => by cases hk; omega)); clear hr9 hb9))
    exact bodyPost_ret (results_row_row_tmp rfl _ _ (w.heap.size + 1 + 1) 41 _ _ _ (w.heap.size + 1 + 1 + 1) 24 _ _ _ rfl r2.out Tryz.underlying41 rfl info_g rfl r3.out Tryz.underlying24 rfl i0.out) rfl ⟨.inl ⟨h0'.out, rfl⟩, hB.out⟩
  rw [if_neg (by simpa using h0)] at hEe
  obtain ⟨hnm, hm60, hri⟩ := hz.out h0
  subst h0
  have hpl2 := Lib.hid (hpl.out hri)
  have hal2 := Lib.hid (hal.out hri)
  have hm60 := Lib.hid hm60
  have hnm' := Lib.hid hnm
  clear hpl hal hz hri hnm
  by_cases h1 : verO o = 0
  rotate_left
  · rw [if_pos h1] at hEe
    replace hvb := Lib.hid (hvb.out h1)
    have h1' := Lib.hid h1
    rw [hEe] at hvb h1'
    have hx0 : (E != 0) = true := by have := h1'.out; simpa using this
    clear h1 hEe hpl2 hal2 hvo hcg
    go_enter Tryz.func18, Tryz.ntmps18
    go_upto_region 1 with fail
    rw [show ∀ y z : Array Value, y = gC (.slice none 0 0) (.slice none 0 0) → z = u8s (zerosB 32) → ((((w.alloc (.cells (gC (.slice ia n ic) (.slice oa m oc)) 41)).alloc (.cells (o.c (.slice pa o.n pc)) 35)).alloc (.cells y 41)).alloc (.cells z 24)) = W from fun y z hy hz => by rw [hy, hz, hW]]
    rotate_left
    · rfl
    · kernel_rfl
    clear hW
    go_wp2_with (first | (refine wpList_load_row_g rfl 41 _ rfl w.heap.size rfl 41 (gC (.slice ia n ic) (.slice oa m oc)) (0, 0) _ r0.out Tryz.underlying41 rfl info_g ?_) | (refine wpList_load_row_g rfl 35 _ rfl (w.heap.size + 1) rfl 35 (o.c (.slice pa o.n pc)) (0, 0) _ r1.out Tryz.underlying35 rfl io.out ?_) | (go_at_call 24; (with_reducible refine (hck.out _ hB.out).mono ?_); rintro e9 w4 ⟨rfl, z2⟩; replace r0 := Lib.hid (rowK r0.out z2); replace r1 := Lib.hid (rowK r1.out z2); replace r2 := Lib.hid (rowK r2.out z2); replace r3 := Lib.hid (rowK r3.out z2); replace hB := Lib.hid (hB.out.trans (z2.mono hB.out.size)); clear z2) | (go_at_call 66; (with_reducible refine (hvb.out _ hB.out).mono ?_); rintro e9 w5 ⟨rfl, z2⟩; replace r0 := Lib.hid (rowK r0.out z2); replace r1 := Lib.hid (rowK r1.out z2); replace r2 := Lib.hid (rowK r2.out z2); replace r3 := Lib.hid (rowK r3.out z2); replace hB := Lib.hid (hB.out.trans (z2.mono hB.out.size)); clear z2) | (refine storeOver _ w5.heap.size _ rfl 24 _ _ rfl (u8s (zerosB 32)) 24 (heap_alloc_new w5 _) rfl rfl i0.out rfl (u8s_one _) ?_; intro w6 hr9 hb9; have z2 := (below_a w5 _).trans hb9; replace r0 := Lib.hid (rowK r0.out z2); replace r1 := Lib.hid (rowK r1.out z2); replace r2 := Lib.hid (rowK r2.out z2); replace r3 := Lib.hid (rowK r3.out z2); replace hB := Lib.hid (hB.out.trans (z2.mono hB.out.size)); clear z2 hr9 hb9) | (refine storeBut _ (w.heap.size + 1 + 1) _ rfl 41 _ _ rfl (gC (.slice none 0 0) (.slice none 0 0)) 41 r2.out rfl rfl info_g rfl (gC_one _ _ _ _ _ _) ?_; intro w9 hr9 hb9; replace r3 := Lib.hid (grown_rowG hb9 r3.out (by simp)); replace r2 := Lib.hid hr9; replace hB := Lib.hid (Below.grown hB.out hb9 hB.out.size (fun k hk => by cases hk; omega)); clear hr9 hb9) | (refine storeBut _ (w.heap.size + 1 + 1 + 1) _ rfl 24 _ _ rfl (u8s (zerosB 32)) 24 r3.out rfl rfl i0.out rfl (u8s_one _) ?_; intro w9 hr9 hb9; replace r2 := Lib.hid (grown_rowG hb9 r2.out (by simp)); replace r3 := Lib.hid hr9; replace hB := Lib.hid (Below.grown hB.out hb9 hB.out.size (fun k hk => by cases hk; omega)); clear hr9 hb9))
    exact bodyPost_ret (results_row_row_tmp rfl _ _ (w.heap.size + 1 + 1) 41 _ _ _ (w.heap.size + 1 + 1 + 1) 24 _ _ _ rfl r2.out Tryz.underlying41 rfl info_g rfl r3.out Tryz.underlying24 rfl i0.out) rfl ⟨.inl ⟨h1'.out, rfl⟩, hB.out⟩
  rw [if_neg (by simpa using h1)] at hEe
  replace hvo := Lib.hid (hvo.out h1)
  clear h1 hvb
  obtain ⟨MB, hMB⟩ : ∃ MB, memF F n x = MB := ⟨_, rfl⟩
  rw [hMB] at hpl2 hEe
  have hMB' := Lib.hid hMB
  clear hMB
  cases MB with
  | true =>
    obtain rfl : 14 = E := by simpa using hEe
    clear hEe hal2 hcg
    go_enter Tryz.func18, Tryz.ntmps18
    go_upto_region 1 with fail
    rw [show ∀ y z : Array Value, y = gC (.slice none 0 0) (.slice none 0 0) → z = u8s (zerosB 32) → ((((w.alloc (.cells (gC (.slice ia n ic) (.slice oa m oc)) 41)).alloc (.cells (o.c (.slice pa o.n pc)) 35)).alloc (.cells y 41)).alloc (.cells z 24)) = W from fun y z hy hz => by rw [hy, hz, hW]]
    rotate_left
    · rfl
    · kernel_rfl
    clear hW
    go_wp2_with (first | (refine wpList_load_row_g rfl 41 _ rfl w.heap.size rfl 41 (gC (.slice ia n ic) (.slice oa m oc)) (0, 0) _ r0.out Tryz.underlying41 rfl info_g ?_) | (refine wpList_load_row_g rfl 35 _ rfl (w.heap.size + 1) rfl 35 (o.c (.slice pa o.n pc)) (0, 0) _ r1.out Tryz.underlying35 rfl io.out ?_) | (go_at_call 24; (with_reducible refine (hck.out _ hB.out).mono ?_); rintro e9 w4 ⟨rfl, z2⟩; replace r0 := Lib.hid (rowK r0.out z2); replace r1 := Lib.hid (rowK r1.out z2); replace r2 := Lib.hid (rowK r2.out z2); replace r3 := Lib.hid (rowK r3.out z2); replace hB := Lib.hid (hB.out.trans (z2.mono hB.out.size)); clear z2) | (go_at_call 66; (with_reducible refine (hvo.out _ hB.out).mono ?_); rintro e9 w5 ⟨rfl, z2⟩; replace r0 := Lib.hid (rowK r0.out z2); replace r1 := Lib.hid (rowK r1.out z2); replace r2 := Lib.hid (rowK r2.out z2); replace r3 := Lib.hid (rowK r3.out z2); replace hB := Lib.hid (hB.out.trans (z2.mono hB.out.size)); clear z2) | (refine storeOver _ w5.heap.size _ rfl 24 _ _ rfl (u8s x) 24 (heap_alloc_new w5 _) rfl rfl ix.out s32.out (u8s_one _) ?_; intro w6 hr9 hb9; have z2 := (below_a w5 _).trans hb9; replace r0 := Lib.hid (rowK r0.out z2); replace r1 := Lib.hid (rowK r1.out z2); replace r2 := Lib.hid (rowK r2.out z2); replace r3 := Lib.hid (rowK r3.out z2); replace hB := Lib.hid (hB.out.trans (z2.mono hB.out.size)); have r8 := Lib.hid hr9; have cI : w6.cell? ⟨w.heap.size, 0, none⟩ = some (.slice ia n ic) := (by rw [cell_of_row _ _ _ _ _ _ r0.out]; rfl); clear z2 hr9 hb9) | (refine wpList_load_row_g rfl 24 _ rfl w5.heap.size rfl 24 (u8s x) (0, 0) _ r8.out Tryz.underlying24 rfl ix.out ?_) | (go_at_call 67; (with_reducible refine (hpl2.out _ hB.out).mono ?_); rintro e9 w7 ⟨p, hp0, rfl, z2⟩; have hp := Lib.hid hp0; replace r0 := Lib.hid (rowK r0.out z2); replace r1 := Lib.hid (rowK r1.out z2); replace r2 := Lib.hid (rowK r2.out z2); replace r3 := Lib.hid (rowK r3.out z2); replace r8 := Lib.hid (rowK r8.out z2); replace hB := Lib.hid (hB.out.trans (z2.mono hB.out.size)); clear z2 cI hp0; have cI : w7.cell? ⟨w.heap.size, 0, none⟩ = some (.slice ia n ic) := (by rw [cell_of_row _ _ _ _ _ _ r0.out]; rfl); have cP : w7.cell? ⟨w.heap.size + 1, 1, none⟩ = some (.slice pa o.n pc) := (by rw [cell_of_row _ _ _ _ _ _ r1.out]; rfl); ) | (refine storeBut _ (w.heap.size + 1 + 1) _ rfl 41 _ _ rfl (gC (.slice none 0 0) (.slice none 0 0)) 41 r2.out rfl rfl info_g rfl (gC_one _ _ _ _ _ _) ?_; intro w9 hr9 hb9; replace r3 := Lib.hid (grown_rowG hb9 r3.out (by simp)); replace r2 := Lib.hid hr9; replace hB := Lib.hid (Below.grown hB.out hb9 hB.out.size (fun k hk => by cases hk; omega)); clear hr9 hb9) | (refine storeBut _ (w.heap.size + 1 + 1 + 1) _ rfl 24 _ _ rfl (u8s (zerosB 32)) 24 r3.out rfl rfl i0.out rfl (u8s_one _) ?_; intro w9 hr9 hb9; replace r2 := Lib.hid (grown_rowG hb9 r2.out (by simp)); replace r3 := Lib.hid hr9; replace hB := Lib.hid (Below.grown hB.out hb9 hB.out.size (fun k hk => by cases hk; omega)); clear hr9 hb9))
    exact bodyPost_ret (results_row_row_tmp rfl _ _ (w.heap.size + 1 + 1) 41 _ _ _ (w.heap.size + 1 + 1 + 1) 24 _ _ _ rfl r2.out Tryz.underlying41 rfl info_g rfl r3.out Tryz.underlying24 rfl i0.out) rfl ⟨.inl ⟨by decide, rfl⟩, hB.out⟩
  | false =>
    obtain ⟨AB, hAB⟩ : ∃ AB, allF F n o.F o.n = AB := ⟨_, rfl⟩
    rw [hAB] at hal2 hEe
    clear hAB
    cases AB with
    | false =>
      obtain rfl : 40 = E := by simpa using hEe
      clear hEe hcg
      go_enter Tryz.func18, Tryz.ntmps18
      go_upto_region 1 with fail
      rw [show ∀ y z : Array Value, y = gC (.slice none 0 0) (.slice none 0 0) → z = u8s (zerosB 32) → ((((w.alloc (.cells (gC (.slice ia n ic) (.slice oa m oc)) 41)).alloc (.cells (o.c (.slice pa o.n pc)) 35)).alloc (.cells y 41)).alloc (.cells z 24)) = W from fun y z hy hz => by rw [hy, hz, hW]]
      rotate_left
      · rfl
      · kernel_rfl
      clear hW
      go_wp2_with (first | (refine wpList_load_row_g rfl 41 _ rfl w.heap.size rfl 41 (gC (.slice ia n ic) (.slice oa m oc)) (0, 0) _ r0.out Tryz.underlying41 rfl info_g ?_) | (refine wpList_load_row_g rfl 35 _ rfl (w.heap.size + 1) rfl 35 (o.c (.slice pa o.n pc)) (0, 0) _ r1.out Tryz.underlying35 rfl io.out ?_) | (go_at_call 24; (with_reducible refine (hck.out _ hB.out).mono ?_); rintro e9 w4 ⟨rfl, z2⟩; replace r0 := Lib.hid (rowK r0.out z2); replace r1 := Lib.hid (rowK r1.out z2); replace r2 := Lib.hid (rowK r2.out z2); replace r3 := Lib.hid (rowK r3.out z2); replace hB := Lib.hid (hB.out.trans (z2.mono hB.out.size)); clear z2) | (go_at_call 66; (with_reducible refine (hvo.out _ hB.out).mono ?_); rintro e9 w5 ⟨rfl, z2⟩; replace r0 := Lib.hid (rowK r0.out z2); replace r1 := Lib.hid (rowK r1.out z2); replace r2 := Lib.hid (rowK r2.out z2); replace r3 := Lib.hid (rowK r3.out z2); replace hB := Lib.hid (hB.out.trans (z2.mono hB.out.size)); clear z2) | (refine storeOver _ w5.heap.size _ rfl 24 _ _ rfl (u8s x) 24 (heap_alloc_new w5 _) rfl rfl ix.out s32.out (u8s_one _) ?_; intro w6 hr9 hb9; have z2 := (below_a w5 _).trans hb9; replace r0 := Lib.hid (rowK r0.out z2); replace r1 := Lib.hid (rowK r1.out z2); replace r2 := Lib.hid (rowK r2.out z2); replace r3 := Lib.hid (rowK r3.out z2); replace hB := Lib.hid (hB.out.trans (z2.mono hB.out.size)); have r8 := Lib.hid hr9; have cI : w6.cell? ⟨w.heap.size, 0, none⟩ = some (.slice ia n ic) := (by rw [cell_of_row _ _ _ _ _ _ r0.out]; rfl); clear z2 hr9 hb9) | (refine wpList_load_row_g rfl 24 _ rfl w5.heap.size rfl 24 (u8s x) (0, 0) _ r8.out Tryz.underlying24 rfl ix.out ?_) | (go_at_call 67; (with_reducible refine (hpl2.out _ hB.out).mono ?_); rintro e9 w7 ⟨p, hp0, rfl, z2⟩; have hp := Lib.hid hp0; replace r0 := Lib.hid (rowK r0.out z2); replace r1 := Lib.hid (rowK r1.out z2); replace r2 := Lib.hid (rowK r2.out z2); replace r3 := Lib.hid (rowK r3.out z2); replace r8 := Lib.hid (rowK r8.out z2); replace hB := Lib.hid (hB.out.trans (z2.mono hB.out.size)); clear z2 cI hp0; have cI : w7.cell? ⟨w.heap.size, 0, none⟩ = some (.slice ia n ic) := (by rw [cell_of_row _ _ _ _ _ _ r0.out]; rfl); have cP : w7.cell? ⟨w.heap.size + 1, 1, none⟩ = some (.slice pa o.n pc) := (by rw [cell_of_row _ _ _ _ _ _ r1.out]; rfl); ) | (go_at_call 70; (with_reducible refine (hal2.out _ hB.out).mono ?_); rintro e9 w8 ⟨rfl, z2⟩; replace r0 := Lib.hid (rowK r0.out z2); replace r1 := Lib.hid (rowK r1.out z2); replace r2 := Lib.hid (rowK r2.out z2); replace r3 := Lib.hid (rowK r3.out z2); replace r8 := Lib.hid (rowK r8.out z2); replace hB := Lib.hid (hB.out.trans (z2.mono hB.out.size)); clear z2 cI cP; have cO : w8.cell? ⟨w.heap.size, 1, none⟩ = some (.slice oa m oc) := (by rw [cell_of_row _ _ _ _ _ _ r0.out]; rfl); ) | (refine storeBut _ (w.heap.size + 1 + 1) _ rfl 41 _ _ rfl (gC (.slice none 0 0) (.slice none 0 0)) 41 r2.out rfl rfl info_g rfl (gC_one _ _ _ _ _ _) ?_; intro w9 hr9 hb9; replace r3 := Lib.hid (grown_rowG hb9 r3.out (by simp)); replace r2 := Lib.hid hr9; replace hB := Lib.hid (Below.grown hB.out hb9 hB.out.size (fun k hk => by cases hk; omega)); clear hr9 hb9) | (refine storeBut _ (w.heap.size + 1 + 1 + 1) _ rfl 24 _ _ rfl (u8s (zerosB 32)) 24 r3.out rfl rfl i0.out rfl (u8s_one _) ?_; intro w9 hr9 hb9; replace r2 := Lib.hid (grown_rowG hb9 r2.out (by simp)); replace r3 := Lib.hid hr9; replace hB := Lib.hid (Below.grown hB.out hb9 hB.out.size (fun k hk => by cases hk; omega)); clear hr9 hb9))
      exact bodyPost_ret (results_row_row_tmp rfl _ _ (w.heap.size + 1 + 1) 41 _ _ _ (w.heap.size + 1 + 1 + 1) 24 _ _ _ rfl r2.out Tryz.underlying41 rfl info_g rfl r3.out Tryz.underlying24 rfl i0.out) rfl ⟨.inl ⟨by decide, rfl⟩, hB.out⟩
    | true =>
      by_cases h60 : m = 60
      · subst h60
        obtain rfl : 18 = E := by simpa using hEe
        clear hEe hcg
        go_enter Tryz.func18, Tryz.ntmps18
        go_upto_region 1 with fail
        rw [show ∀ y z : Array Value, y = gC (.slice none 0 0) (.slice none 0 0) → z = u8s (zerosB 32) → ((((w.alloc (.cells (gC (.slice ia n ic) (.slice oa 60 oc)) 41)).alloc (.cells (o.c (.slice pa o.n pc)) 35)).alloc (.cells y 41)).alloc (.cells z 24)) = W from fun y z hy hz => by rw [hy, hz, hW]]
        rotate_left
        · rfl
        · kernel_rfl
        clear hW
        go_wp2_with (first | (refine wpList_load_row_g rfl 41 _ rfl w.heap.size rfl 41 (gC (.slice ia n ic) (.slice oa 60 oc)) (0, 0) _ r0.out Tryz.underlying41 rfl info_g ?_) | (refine wpList_load_row_g rfl 35 _ rfl (w.heap.size + 1) rfl 35 (o.c (.slice pa o.n pc)) (0, 0) _ r1.out Tryz.underlying35 rfl io.out ?_) | (go_at_call 24; (with_reducible refine (hck.out _ hB.out).mono ?_); rintro e9 w4 ⟨rfl, z2⟩; replace r0 := Lib.hid (rowK r0.out z2); replace r1 := Lib.hid (rowK r1.out z2); replace r2 := Lib.hid (rowK r2.out z2); replace r3 := Lib.hid (rowK r3.out z2); replace hB := Lib.hid (hB.out.trans (z2.mono hB.out.size)); clear z2) | (go_at_call 66; (with_reducible refine (hvo.out _ hB.out).mono ?_); rintro e9 w5 ⟨rfl, z2⟩; replace r0 := Lib.hid (rowK r0.out z2); replace r1 := Lib.hid (rowK r1.out z2); replace r2 := Lib.hid (rowK r2.out z2); replace r3 := Lib.hid (rowK r3.out z2); replace hB := Lib.hid (hB.out.trans (z2.mono hB.out.size)); clear z2) | (refine storeOver _ w5.heap.size _ rfl 24 _ _ rfl (u8s x) 24 (heap_alloc_new w5 _) rfl rfl ix.out s32.out (u8s_one _) ?_; intro w6 hr9 hb9; have z2 := (below_a w5 _).trans hb9; replace r0 := Lib.hid (rowK r0.out z2); replace r1 := Lib.hid (rowK r1.out z2); replace r2 := Lib.hid (rowK r2.out z2); replace r3 := Lib.hid (rowK r3.out z2); replace hB := Lib.hid (hB.out.trans (z2.mono hB.out.size)); have r8 := Lib.hid hr9; have cI : w6.cell? ⟨w.heap.size, 0, none⟩ = some (.slice ia n ic) := (by rw [cell_of_row _ _ _ _ _ _ r0.out]; rfl); clear z2 hr9 hb9) | (refine wpList_load_row_g rfl 24 _ rfl w5.heap.size rfl 24 (u8s x) (0, 0) _ r8.out Tryz.underlying24 rfl ix.out ?_) | (go_at_call 67; (with_reducible refine (hpl2.out _ hB.out).mono ?_); rintro e9 w7 ⟨p, hp0, rfl, z2⟩; have hp := Lib.hid hp0; replace r0 := Lib.hid (rowK r0.out z2); replace r1 := Lib.hid (rowK r1.out z2); replace r2 := Lib.hid (rowK r2.out z2); replace r3 := Lib.hid (rowK r3.out z2); replace r8 := Lib.hid (rowK r8.out z2); replace hB := Lib.hid (hB.out.trans (z2.mono hB.out.size)); clear z2 cI hp0; have cI : w7.cell? ⟨w.heap.size, 0, none⟩ = some (.slice ia n ic) := (by rw [cell_of_row _ _ _ _ _ _ r0.out]; rfl); have cP : w7.cell? ⟨w.heap.size + 1, 1, none⟩ = some (.slice pa o.n pc) := (by rw [cell_of_row _ _ _ _ _ _ r1.out]; rfl); ) | (go_at_call 70; (with_reducible refine (hal2.out _ hB.out).mono ?_); rintro e9 w8 ⟨rfl, z2⟩; replace r0 := Lib.hid (rowK r0.out z2); replace r1 := Lib.hid (rowK r1.out z2); replace r2 := Lib.hid (rowK r2.out z2); replace r3 := Lib.hid (rowK r3.out z2); replace r8 := Lib.hid (rowK r8.out z2); replace hB := Lib.hid (hB.out.trans (z2.mono hB.out.size)); clear z2 cI cP; have cO : w8.cell? ⟨w.heap.size, 1, none⟩ = some (.slice oa 60 oc) := (by rw [cell_of_row _ _ _ _ _ _ r0.out]; rfl); ) | (refine storeBut _ (w.heap.size + 1 + 1) _ rfl 41 _ _ rfl (gC (.slice none 0 0) (.slice none 0 0)) 41 r2.out rfl rfl info_g rfl (gC_one _ _ _ _ _ _) ?_; intro w9 hr9 hb9; replace r3 := Lib.hid (grown_rowG hb9 r3.out (by simp)); replace r2 := Lib.hid hr9; replace hB := Lib.hid (Below.grown hB.out hb9 hB.out.size (fun k hk => by cases hk; omega)); clear hr9 hb9) | (refine storeBut _ (w.heap.size + 1 + 1 + 1) _ rfl 24 _ _ rfl (u8s (zerosB 32)) 24 r3.out rfl rfl i0.out rfl (u8s_one _) ?_; intro w9 hr9 hb9; replace r2 := Lib.hid (grown_rowG hb9 r2.out (by simp)); replace r3 := Lib.hid hr9; replace hB := Lib.hid (Below.grown hB.out hb9 hB.out.size (fun k hk => by cases hk; omega)); clear hr9 hb9))
        exact bodyPost_ret (results_row_row_tmp rfl _ _ (w.heap.size + 1 + 1) 41 _ _ _ (w.heap.size + 1 + 1 + 1) 24 _ _ _ rfl r2.out Tryz.underlying41 rfl info_g rfl r3.out Tryz.underlying24 rfl i0.out) rfl ⟨.inl ⟨by decide, rfl⟩, hB.out⟩
      · obtain rfl : 0 = E := by simpa [h60] using hEe
        have hn60 : ((m : Int) == 60) = false := by simp; omega
        clear hEe h60
        go_enter Tryz.func18, Tryz.ntmps18
        go_upto_region 1 with fail
        rw [show ∀ y z : Array Value, y = gC (.slice none 0 0) (.slice none 0 0) → z = u8s (zerosB 32) → ((((w.alloc (.cells (gC (.slice ia n ic) (.slice oa m oc)) 41)).alloc (.cells (o.c (.slice pa o.n pc)) 35)).alloc (.cells y 41)).alloc (.cells z 24)) = W from fun y z hy hz => by rw [hy, hz, hW]]
        rotate_left
        · rfl
        · kernel_rfl
        clear hW
        go_upto_region 14 with (first | (refine wpList_load_row_g rfl 41 _ rfl w.heap.size rfl 41 (gC (.slice ia n ic) (.slice oa m oc)) (0, 0) _ r0.out Tryz.underlying41 rfl info_g ?_) | (refine wpList_load_row_g rfl 35 _ rfl (w.heap.size + 1) rfl 35 (o.c (.slice pa o.n pc)) (0, 0) _ r1.out Tryz.underlying35 rfl io.out ?_) | (go_at_call 24; (with_reducible refine (hck.out _ hB.out).mono ?_); rintro e9 w4 ⟨rfl, z2⟩; replace r0 := Lib.hid (rowK r0.out z2); replace r1 := Lib.hid (rowK r1.out z2); replace r2 := Lib.hid (rowK r2.out z2); replace r3 := Lib.hid (rowK r3.out z2); replace hB := Lib.hid (hB.out.trans (z2.mono hB.out.size)); clear z2) | (go_at_call 66; (with_reducible refine (hvo.out _ hB.out).mono ?_); rintro e9 w5 ⟨rfl, z2⟩; replace r0 := Lib.hid (rowK r0.out z2); replace r1 := Lib.hid (rowK r1.out z2); replace r2 := Lib.hid (rowK r2.out z2); replace r3 := Lib.hid (rowK r3.out z2); replace hB := Lib.hid (hB.out.trans (z2.mono hB.out.size)); clear z2) | (refine storeOver _ w5.heap.size _ rfl 24 _ _ rfl (u8s x) 24 (heap_alloc_new w5 _) rfl rfl ix.out s32.out (u8s_one _) ?_; intro w6 hr9 hb9; have z2 := (below_a w5 _).trans hb9; replace r0 := Lib.hid (rowK r0.out z2); replace r1 := Lib.hid (rowK r1.out z2); replace r2 := Lib.hid (rowK r2.out z2); replace r3 := Lib.hid (rowK r3.out z2); replace hB := Lib.hid (hB.out.trans (z2.mono hB.out.size)); have r8 := Lib.hid hr9; have cI : w6.cell? ⟨w.heap.size, 0, none⟩ = some (.slice ia n ic) := (by rw [cell_of_row _ _ _ _ _ _ r0.out]; rfl); clear z2 hr9 hb9) | (refine wpList_load_row_g rfl 24 _ rfl w5.heap.size rfl 24 (u8s x) (0, 0) _ r8.out Tryz.underlying24 rfl ix.out ?_) | (go_at_call 67; (with_reducible refine (hpl2.out _ hB.out).mono ?_); rintro e9 w7 ⟨p, hp0, rfl, z2⟩; have hp := Lib.hid hp0; replace r0 := Lib.hid (rowK r0.out z2); replace r1 := Lib.hid (rowK r1.out z2); replace r2 := Lib.hid (rowK r2.out z2); replace r3 := Lib.hid (rowK r3.out z2); replace r8 := Lib.hid (rowK r8.out z2); replace hB := Lib.hid (hB.out.trans (z2.mono hB.out.size)); clear z2 cI hp0; have cI : w7.cell? ⟨w.heap.size, 0, none⟩ = some (.slice ia n ic) := (by rw [cell_of_row _ _ _ _ _ _ r0.out]; rfl); have cP : w7.cell? ⟨w.heap.size + 1, 1, none⟩ = some (.slice pa o.n pc) := (by rw [cell_of_row _ _ _ _ _ _ r1.out]; rfl); ) | (go_at_call 70; (with_reducible refine (hal2.out _ hB.out).mono ?_); rintro e9 w8 ⟨rfl, z2⟩; replace r0 := Lib.hid (rowK r0.out z2); replace r1 := Lib.hid (rowK r1.out z2); replace r2 := Lib.hid (rowK r2.out z2); replace r3 := Lib.hid (rowK r3.out z2); replace r8 := Lib.hid (rowK r8.out z2); replace hB := Lib.hid (hB.out.trans (z2.mono hB.out.size)); clear z2 cI cP; have cO : w8.cell? ⟨w.heap.size, 1, none⟩ = some (.slice oa m oc) := (by rw [cell_of_row _ _ _ _ _ _ r0.out]; rfl); ))
        obtain ⟨g8, hg8⟩ : ∃ g, g = w5.heap.size := ⟨_, rfl⟩
        rw [← hg8] at r8
        rw [← hg8]
        clear cO
        have ne8 : g8 ≠ w.heap.size + 1 + 1 := by intro e; have h := r8.out; rw [e, r2.out] at h; simp at h
        have hg4 := Lib.hid (Array.getElem?_eq_some_iff.1 r2.out).1
        have hg5 := Lib.hid (Array.getElem?_eq_some_iff.1 r3.out).1
        refine wp_region_fxu 8 c3A c3U [6, 7] (by kernel_rfl) (by kernel_rfl) (by kernel_rfl) (fun j vs wz => c3F w8.heap.size (w.heap.size + 1 + 1) n p F x L o (.slice ia n ic) (.slice oa m oc) (.slice pa o.n pc) j (vs j) wz) (c3G w8.heap.size (w.heap.size + 1 + 1)) (c3I (w.heap.size + 1 + 1) w8) (fun i wz => i = 7 → wz.heap[w.heap.size + 1 + 1]? = some (.cells (gC (.slice none 0 0) (.slice none 0 0)) 41 (0, 0)))
          ⟨(Below.refl _ _).drew, Nat.le_refl _, fun _ _ _ => rfl⟩ (fun _ _ _ => r2.out) (fun i a b hi h hg => c3I_next hg4.out h hg) (fun j vs vs' a hj he h => c3_cong j vs vs' a (he j (.inl rfl)) h) (fun i j vs a b hi hj ha hn _ h hg => c3_keep i j _ a b hi hj ha hn h hg) (fun i j a b hi hj ha hinv h hg e7 => by subst e7; have h7 : i ≠ 7 := (by rintro rfl; revert ha; decide); unfold c3G at hg; rw [if_neg h7] at hg; exact (hg.1.block _ hg4.out).trans (h rfl)) ?hstep ?hdone
        case hstep =>
          intro i op vs wz hi hop hinv hpre hd'
          match i, hi with
          | 0, _ =>
            simp only [List.getElem?_toArray, List.getElem?_cons_zero, List.getElem?_cons_succ, Option.some.injEq] at hop
            subst hop
            generalize hfr : fxF _ vs fxT _ 0 = fr
            have e : fr.eval (.tmp 2) = .pointer (some ⟨w.heap.size, 0, none⟩) := by rw [← hfr]; exact fx_old 0 (by kernel_rfl)
            clear hfr
            have hl := run_loadVar_row (P := Tryz.prog) wz (w.heap.size) 41 41 (gC (.slice ia n ic) (.slice oa m oc)) (0, 0) _ (c3I_row hinv r0.out (by omega)) Tryz.underlying41 rfl info_g
            refine fx_val (v := .agg (gC (.slice ia n ic) (.slice oa m oc))) (w' := wz) rfl ?_ ⟨rfl, Below.refl _ _, fun _ _ => rfl⟩
            unfold execOp
            generalize fr.eval = ev at e ⊢
            simp only [e, Instr.loadAt, Instr.sureAddr, Sem.run_bind, Sem.run_pure, Result.andThen_ok, hl]
          | 1, _ =>
            simp only [List.getElem?_toArray, List.getElem?_cons_zero, List.getElem?_cons_succ, Option.some.injEq] at hop
            subst hop
            have h0 : vs 0 = .agg (gC (.slice ia n ic) (.slice oa m oc)) := hd' 0 (by decide)
            generalize hfr : fxF _ vs fxT _ 1 = fr
            have e1 : fr.eval (.tmp 53) = .agg (gC (.slice ia n ic) (.slice oa m oc)) := by rw [← hfr]; exact (fx_new (by simp) 1 (by kernel_rfl)).trans h0
            clear hfr
            refine fx_call #[.agg (gC (.slice ia n ic) (.slice oa m oc))] rfl rfl Tryz.func71 (by kernel_rfl) rfl (by simp [e1]) rfl ((hcg.out wz (hB.out.trans (hinv.1.mono (by omega)))).mono ?_)
            rintro e9 w9 ⟨iv', ov', rfl, y1, y2, y3⟩
            obtain ⟨ja, jc, rfl⟩ := own_rowG y1
            obtain ⟨ka, kc, rfl⟩ : ∃ a c, ov' = .slice a n c := by obtain ⟨xs, k1, _⟩ := y2; obtain ⟨a, c, e⟩ := own_rowG k1; rw [hmL'.out, ← hnm'.out] at e; exact ⟨a, c, e⟩
            exact ⟨_, rfl, ⟨ja, jc, ka, kc, rfl, OwnI.mono y1 hinv.2.1, y2.mono hinv.2.1⟩, y3.mono hinv.2.1, fun h => absurd rfl h⟩
          | 2, _ =>
            simp only [List.getElem?_toArray, List.getElem?_cons_zero, List.getElem?_cons_succ, Option.some.injEq] at hop
            subst hop
            generalize hfr : fxF _ vs fxT _ 2 = fr
            have e : fr.eval (.tmp 10) = .int .i64 (p : Int) := by rw [← hfr]; exact fx_old 2 (by kernel_rfl)
            clear hfr
            refine fx_move (.tmp 10) rfl rfl ?_
            rw [e]
            exact ⟨rfl, Below.refl _ _, fun _ _ => rfl⟩
          | 3, _ =>
            simp only [List.getElem?_toArray, List.getElem?_cons_zero, List.getElem?_cons_succ, Option.some.injEq] at hop
            subst hop
            generalize hfr : fxF _ vs fxT _ 3 = fr
            have e : fr.eval (.tmp 8) = .pointer (some ⟨g8, 0, none⟩) := by rw [← hfr]; exact fx_old 3 (by kernel_rfl)
            clear hfr
            have hl := run_loadVar_row (P := Tryz.prog) wz (g8) 24 24 (u8s x) (0, 0) _ (c3I_row hinv r8.out ne8) Tryz.underlying24 rfl ix.out
            refine fx_val (v := .agg (u8s x)) (w' := wz) rfl ?_ ⟨rfl, Below.refl _ _, fun _ _ => rfl⟩
            unfold execOp
            generalize fr.eval = ev at e ⊢
            simp only [e, Instr.loadAt, Instr.sureAddr, Sem.run_bind, Sem.run_pure, Result.andThen_ok, hl]
          | 4, _ =>
            simp only [List.getElem?_toArray, List.getElem?_cons_zero, List.getElem?_cons_succ, Option.some.injEq] at hop
            subst hop
            generalize hfr : fxF _ vs fxT _ 4 = fr
            have e : fr.eval (.tmp 3) = .pointer (some ⟨w.heap.size + 1, 0, none⟩) := by rw [← hfr]; exact fx_old 4 (by kernel_rfl)
            clear hfr
            have hl := run_loadVar_row (P := Tryz.prog) wz (w.heap.size + 1) 35 35 (o.c (.slice pa o.n pc)) (0, 0) _ (c3I_row hinv r1.out (by omega)) Tryz.underlying35 rfl io.out
            refine fx_val (v := .agg (o.c (.slice pa o.n pc))) (w' := wz) rfl ?_ ⟨rfl, Below.refl _ _, fun _ _ => rfl⟩
            unfold execOp
            generalize fr.eval = ev at e ⊢
            simp only [e, Instr.loadAt, Instr.sureAddr, Sem.run_bind, Sem.run_pure, Result.andThen_ok, hl]
          | 5, _ =>
            simp only [List.getElem?_toArray, List.getElem?_cons_zero, List.getElem?_cons_succ, Option.some.injEq] at hop
            subst hop
            obtain ⟨ja, jc, ka, kc, h1, y1, y2⟩ : ∃ ia ic oa oc, vs 1 = .agg (gC (.slice ia n ic) (.slice oa n oc)) ∧ OwnI w8.heap.size 24 wz (.slice ia n ic) n F ∧ OwnP w8.heap.size (Value.slice ia n ic).ownBlock wz (.slice oa n oc) L := hd' 1 (by decide)
            have h2 : vs 2 = .int .i64 (p : Int) := hd' 2 (by decide)
            have h3 : vs 3 = .agg (u8s x) := hd' 3 (by decide)
            have h4 : vs 4 = .agg (o.c (.slice pa o.n pc)) := hd' 4 (by decide)
            generalize hfr : fxF _ vs fxT _ 5 = fr
            have e1 : fr.eval (.tmp 54) = .agg (gC (.slice ja n jc) (.slice ka n kc)) := by rw [← hfr]; exact (fx_new (by simp) 5 (by kernel_rfl)).trans h1
            have e2 : fr.eval (.tmp 55) = .int .i64 (p : Int) := by rw [← hfr]; exact (fx_new (by simp) 5 (by kernel_rfl)).trans h2
            have e3 : fr.eval (.tmp 56) = .agg (u8s x) := by rw [← hfr]; exact (fx_new (by simp) 5 (by kernel_rfl)).trans h3
            have e4 : fr.eval (.tmp 57) = .agg (o.c (.slice pa o.n pc)) := by rw [← hfr]; exact (fx_new (by simp) 5 (by kernel_rfl)).trans h4
            clear hfr
            have hpw := hp'.out.mono (hB.out.trans (hinv.1.mono (by omega)))
            have hoff : OffB (Value.slice ja n jc).ownBlock (.slice pa o.n pc) := rdI_off hp'.out (by rcases own_base y1 with h | ⟨k, h, hk⟩; exact .inl h; exact .inr ⟨k, h, Nat.le_trans hB.out.size hk⟩)
            refine fx_call #[.agg (gC (.slice ja n jc) (.slice ka n kc)), .int .i64 (p : Int), .agg (u8s x), .agg (o.c (.slice pa o.n pc))] rfl rfl Tryz.func68 (by kernel_rfl) rfl (by simp [e1, e2, e3, e4]) rfl ((inserted_any w8.heap.size n p F L (.slice ja n jc) (.slice ka n kc) (.slice pa o.n pc) x o wz y1 y2 hn'.out (by rw [hmL'.out, hnm'.out]) hp.out.le hx.out hon'.out hfk.out.1 hfk.out.2 hpw hoff hinv.2.1).mono ?_)
            rintro e9 w9 ⟨iv', ov', rfl, z1, z2, z3⟩
            obtain ⟨ua, uc, rfl⟩ := own_rowG z1
            obtain ⟨va, vc, rfl⟩ : ∃ a c, ov' = .slice a (n + 1) c := by obtain ⟨xs, k1, _⟩ := z2; obtain ⟨a, c, e⟩ := own_rowG k1; rw [insL_length L p o (by have := hp.out.le; have := hmL'.out; have := hnm'.out; omega), hmL'.out, ← hnm'.out] at e; exact ⟨a, c, e⟩
            exact ⟨_, rfl, ⟨ua, uc, va, vc, rfl, z1, z2⟩, z3, fun _ h => absurd rfl h⟩
          | 6, _ =>
            simp only [List.getElem?_toArray, List.getElem?_cons_zero, List.getElem?_cons_succ, Option.some.injEq] at hop
            subst hop
            generalize hfr : fxF _ vs fxT _ 6 = fr
            have e : fr.eval (.tmp 8) = .pointer (some ⟨g8, 0, none⟩) := by rw [← hfr]; exact fx_old 6 (by kernel_rfl)
            clear hfr
            have hl := run_loadVar_row (P := Tryz.prog) wz (g8) 24 24 (u8s x) (0, 0) _ (c3I_row hinv r8.out ne8) Tryz.underlying24 rfl ix.out
            refine fx_val (v := .agg (u8s x)) (w' := wz) rfl ?_ ⟨rfl, Below.refl _ _, fun _ _ => rfl⟩
            unfold execOp
            generalize fr.eval = ev at e ⊢
            simp only [e, Instr.loadAt, Instr.sureAddr, Sem.run_bind, Sem.run_pure, Result.andThen_ok, hl]
          | 7, _ =>
            simp only [List.getElem?_toArray, List.getElem?_cons_zero, List.getElem?_cons_succ, Option.some.injEq] at hop
            subst hop
            generalize hfr : fxF _ vs fxT _ 7 = fr
            have e1 : fr.eval (.tmp 4) = .pointer (some ⟨w.heap.size + 1 + 1, 0, none⟩) := by rw [← hfr]; exact fx_old 7 (by kernel_rfl)
            have e2 : fr.eval (.tmp 58) = vs 5 := by rw [← hfr]; exact (fx_new (by simp) 7 (by kernel_rfl)).trans rfl
            clear hfr
            have h7 := hpre rfl
            have h5 := hd' 5 (by decide)
            exact c3_step7 rfl rfl e1 e2 h5 h7 hg4.out
          | j' + 8, hj' => exact absurd hj' (by omega)
        case hdone =>
          intro vs w9 hinv hf
          obtain ⟨ua, uc, va, vc, k2, z1, z2⟩ : ∃ ua uc va vc, w9.heap[w.heap.size + 1 + 1]? = some (.cells (gC (.slice ua (n + 1) uc) (.slice va (n + 1) vc)) 41 (0, 0)) ∧ OwnI w8.heap.size 24 w9 (.slice ua (n + 1) uc) (n + 1) (insF F p x) ∧ OwnP w8.heap.size (Value.slice ua (n + 1) uc).ownBlock w9 (.slice va (n + 1) vc) (insL L p o) := hf 7 (by decide) (by decide)
          have h6 : vs 6 = .agg (u8s x) := hf 6 (by decide) (by decide)
          simp only [fxF, fxT, if_true, List.drop_succ_cons, List.drop_zero, List.getElem?_toArray, List.getElem?_cons_zero, List.getElem?_cons_succ, Option.bind_some, Option.bind_none]
          rw [h6]
          clear hf h6
          generalize vs 0 = z0' at *
          generalize vs 1 = z1' at *
          generalize vs 2 = z2' at *
          generalize vs 3 = z3' at *
          generalize vs 4 = z4' at *
          generalize vs 5 = z5' at *
          generalize vs 7 = z7' at *
          replace r3 := Lib.hid (c3I_row hinv r3.out (by omega))
          replace r2 := Lib.hid k2
          have x1 := Lib.hid z1; have x2 := Lib.hid z2; have xB := Lib.hid (hB.out.trans (hinv.1.mono (by omega)))
          have xs8 := Lib.hid hB.out.size
          clear z1 z2 hinv r0 r1 r8 hB k2
          refine storeBut (P := Tryz.prog) _ (w.heap.size + 1 + 1 + 1) _ rfl 24 (.tmp 5) (.tmp 59) rfl (u8s x) 24 r3.out (by kernel_rfl) (by kernel_rfl) ix.out s32.out (u8s_one _) ?_
          intro wx hr9 hb9
          replace r2 := Lib.hid (grown_rowG hb9 r2.out (by simp))
          replace r3 := Lib.hid hr9
          replace xB := Lib.hid (Below.grown xB.out hb9 xB.out.size (fun k hk => by cases hk; omega))
          replace x1 := Lib.hid (World.ownsRow.kept x1.out hb9 (.inr (own_low x1.out hg5.out)))
          replace x2 := Lib.hid (x2.out.low hg5.out hb9)
          clear hr9 hb9
          go_wp2
          exact bodyPost_ret (results_row_row_tmp rfl _ _ (w.heap.size + 1 + 1) 41 _ _ _ (w.heap.size + 1 + 1 + 1) 24 _ _ _ rfl r2.out Tryz.underlying41 rfl info_g rfl r3.out Tryz.underlying24 rfl ix.out) rfl ⟨.inr ⟨trivial, _, _, p, hp.out, rfl, OwnI.mono x1.out xs8.out, x2.out.mono xs8.out⟩, xB.out⟩
end Go.Proofs.YtlbgffhipondiaaGreatDoor.wir.val
namespace Go.Proofs.YtlbgffhipondiaaGreatDoor.wir.val
open Go.RowKit Go.YtlbgffhipondiaaGreatDoor
set_option linter.unusedVariables false
/-- Each operation of the order l is behind those that are directly before it, and none is there twice. -/
structure OrdOk (F : List Int) (n : Nat) (L : List Od) (l : List Nat) : Prop where
  lt : ∀ x, x ∈ l → x < n
  nd : l.Nodup
  ok : ∀ s, s < l.length → ∀ j, j < (nthO L (l[s]?.getD 0)).n → ∃ r, r < s ∧ idF F (l[r]?.getD 0) = idF (nthO L (l[s]?.getD 0)).F j
/-- What was taken (l), their ids (FT), and the marks (T). -/
structure OrdI (F : List Int) (n : Nat) (L : List Od) (l : List Nat) (FT : List Int) (T : List Bool) : Prop where
  o : OrdOk F n L l
  lenT : T.length = n
  lenF : FT.length = 32 * l.length
  ids : ∀ s, s < l.length → idF FT s = idF F (l[s]?.getD 0)
  mem : ∀ i, i < n → (tkAt T i = true ↔ i ∈ l)
  cnt : cntT T = l.length
theorem ordI_nil (F : List Int) (n : Nat) (L : List Od) : OrdI F n L [] [] (List.replicate n false) :=
  ⟨⟨fun x hx => (by cases hx), List.nodup_nil, fun s hs => absurd hs (Nat.not_lt_zero _)⟩, by simp, rfl, fun s hs => absurd hs (Nat.not_lt_zero _), fun i _ => by rw [tkAt_none]; simp, cntT_none n⟩
theorem getD_app {l : List Nat} {i s : Nat} (h : s < l.length) : (l ++ [i])[s]?.getD 0 = l[s]?.getD 0 := by rw [List.getElem?_append_left h]
theorem getD_end {l : List Nat} {i : Nat} : (l ++ [i])[l.length]?.getD 0 = i := by simp
theorem idF_app {FT A : List Int} {m s : Nat} (h : FT.length = 32 * m) (hs : s < m) : idF (FT ++ A) s = idF FT s := by
  unfold idF
  rw [List.drop_append_of_le_length (by omega), List.take_append_of_le_length (by rw [List.length_drop]; omega)]
theorem idF_end {FT A : List Int} {m : Nat} (h : FT.length = 32 * m) (hA : A.length = 32) : idF (FT ++ A) m = A := by
  unfold idF
  rw [List.drop_append_of_le_length (by omega), List.drop_eq_nil_of_le (by omega), List.nil_append, List.take_of_length_le (by omega)]
theorem ordI_step {F : List Int} {n : Nat} {L : List Od} {l : List Nat} {FT : List Int} {T : List Bool} (h : OrdI F n L l FT T) {i : Nat} (hi : i < n) (h0 : tkAt T i = false) (hA : (idF F i).length = 32)
    (h1 : allF FT l.length (nthO L i).F (nthO L i).n = true) : OrdI F n L (l ++ [i]) (FT ++ idF F i) (T.set i true) := by
  have hl : i < T.length := by rw [h.lenT]; exact hi
  have hnm : i ∉ l := fun hm => by rw [(h.mem i hi).2 hm] at h0; cases h0
  refine ⟨⟨fun x hx => ?_, ?_, fun s hs j hj => ?_⟩, by rw [List.length_set]; exact h.lenT, ?_, fun s hs => ?_, fun k hk => ?_, by rw [cntT_set _ _ hl h0, h.cnt]; simp⟩
  · rcases List.mem_append.1 hx with h2 | h2
    · exact h.o.lt x h2
    · rw [List.mem_singleton.1 h2]; exact hi
  · rw [List.nodup_append]
    refine ⟨h.o.nd, by simp, fun a ha b hb e => ?_⟩
    rw [List.mem_singleton.1 hb] at e
    exact hnm (e ▸ ha)
  · rw [List.length_append, List.length_singleton] at hs
    rcases Nat.lt_or_ge s l.length with h2 | h2
    · rw [getD_app h2] at hj ⊢
      obtain ⟨r, h3, h4⟩ := h.o.ok s h2 j hj
      exact ⟨r, h3, by rw [getD_app (by omega)]; exact h4⟩
    · obtain rfl : s = l.length := by omega
      rw [getD_end] at hj ⊢
      obtain ⟨r, h3, h4⟩ := mem_iff.1 (all_iff.1 h1 j hj)
      exact ⟨r, h3, by rw [getD_app h3, ← h.ids r h3]; exact h4⟩
  · rw [List.length_append, List.length_append, h.lenF, hA, List.length_singleton]; omega
  · rw [List.length_append, List.length_singleton] at hs
    rcases Nat.lt_or_ge s l.length with h2 | h2
    · rw [getD_app h2, idF_app h.lenF h2]; exact h.ids s h2
    · obtain rfl : s = l.length := by omega
      rw [getD_end, idF_end h.lenF hA]
  · rw [tkAt_set _ _ _ _ hl, List.mem_append, List.mem_singleton]
    by_cases e : k = i
    · rw [if_pos e]; exact ⟨fun _ => .inr e, fun _ => rfl⟩
    · rw [if_neg e, h.mem k hk]; exact ⟨fun h2 => .inl h2, fun h2 => h2.resolve_right e⟩
theorem mem_getD {l : List Nat} {x : Nat} (h : x ∈ l) : ∃ s, s < l.length ∧ l[s]?.getD 0 = x := by
  obtain ⟨s, hs, e⟩ := List.getElem_of_mem h
  exact ⟨s, hs, by rw [List.getElem?_eq_getElem hs]; exact e⟩
theorem getD_mem {l : List Nat} {s : Nat} (h : s < l.length) : l[s]?.getD 0 ∈ l := by
  rw [List.getElem?_eq_getElem h]; exact List.getElem_mem h
theorem ord_tk {F : List Int} {n : Nat} {L : List Od} {l : List Nat} (hn : L.length = n) (h : OrdOk F n L l) : ∀ s, s < l.length → Tk F n L (l[s]?.getD 0) := by
  intro s
  induction s using Nat.strongRecOn with
  | _ s ih =>
    intro hs
    have hx := h.lt _ (getD_mem hs)
    refine tk_of (by omega) fun j hj => ?_
    obtain ⟨r, h3, h4⟩ := h.ok s hs j hj
    exact ⟨_, h.lt _ (getD_mem (by omega)), ih r h3 (by omega), h4⟩
theorem ordI_full {F : List Int} {n : Nat} {L : List Od} {l : List Nat} {FT : List Int} {T : List Bool} (hn : L.length = n) (h : OrdI F n L l FT T) (hl : l.length = n) : AllTk F n L := fun i hi => by
  have h1 := cntT_all T (by rw [h.cnt, h.lenT, hl]) i (by rw [h.lenT]; omega)
  obtain ⟨s, hs, e⟩ := mem_getD ((h.mem i (by omega)).1 h1)
  rw [← e]; exact ord_tk hn h.o s hs
theorem ordI_stuck {F : List Int} {n : Nat} {L : List Od} {l : List Nat} {FT : List Int} {T : List Bool} (hn : L.length = n) (h : OrdI F n L l FT T) (hs : ∀ i, i < n → tkAt T i = false → allF FT l.length (nthO L i).F (nthO L i).n = false) : l.length = n ↔ AllTk F n L := by
  refine ⟨ordI_full hn h, fun ha => ?_⟩
  have hle := cntT_le T
  rw [h.cnt, h.lenT] at hle
  rcases Nat.lt_or_ge l.length n with h1 | h1
  · obtain ⟨i, hi, h0⟩ := cntT_some T (by rw [h.cnt, h.lenT]; exact h1)
    rw [h.lenT] at hi
    have hm : i ∈ l := tk_sub (F := F) (n := n) (L := L) (fun k => k ∈ l) (fun k hk hp => by
      refine Classical.byContradiction fun hnm => ?_
      have hf : tkAt T k = false := by
        cases hb : tkAt T k with
        | false => rfl
        | true => exact absurd ((h.mem k (by omega)).1 hb) hnm
      have h2 := hs k (by omega) hf
      have h3 : allF FT l.length (nthO L k).F (nthO L k).n = true := all_iff.2 fun j hj => by
        obtain ⟨q, hq, hql, hqe⟩ := hp j hj
        obtain ⟨s, hs2, e⟩ := mem_getD hql
        exact mem_iff.2 ⟨s, hs2, by rw [h.ids s hs2, e]; exact hqe⟩
      rw [h2] at h3; cases h3) (ha i (by omega))
    rw [(h.mem i hi).2 hm] at h0; cases h0
  · omega
theorem ordI_le {F : List Int} {n : Nat} {L : List Od} {l : List Nat} {FT : List Int} {T : List Bool} (h : OrdI F n L l FT T) : l.length ≤ n := by
  have hle := cntT_le T
  rw [h.cnt, h.lenT] at hle
  exact hle
theorem ordI_room {F : List Int} {n : Nat} {L : List Od} {l : List Nat} {FT : List Int} {T : List Bool} (h : OrdI F n L l FT T) {i : Nat} (hi : i < n) (h0 : tkAt T i = false) : l.length < n := by
  rcases Nat.lt_or_ge l.length n with h1 | h1
  · exact h1
  · have := cntT_all T (by rw [h.cnt, h.lenT]; exact Nat.le_antisymm (ordI_le h) h1) i (by rw [h.lenT]; exact hi)
    rw [this] at h0; cases h0
theorem OwnK.rd {base : Nat} {E : TypeId} {w : World} {v : Value} {l : List Nat} (h : OwnK base E w v l) : RdK w v l := by
  rcases h.2 with ⟨rfl, h0⟩ | ⟨k, cap, cur, rfl, hbk, hk, hnc, hcm, hcs, hct⟩
  · exact .inl ⟨none, 0, rfl, fun _ => rfl, List.eq_nil_of_length_eq_zero h0⟩
  · refine .inr ⟨k, 0, cap, rfl, hnc, hcm, (Array.getElem?_eq_some_iff.1 hk).1, fun i hi => ?_⟩
    rw [Nat.zero_add, cell_of_row _ _ _ _ _ _ hk, ← Array.getElem?_toList]
    have h1 : (cur.toList.take (l.length * 1))[i]? = (kV l)[i]? := by rw [hct]
    rw [List.getElem?_take_of_lt (by omega)] at h1
    rw [h1, kV, List.getElem?_map, List.getElem?_eq_getElem hi]
    rfl
end Go.Proofs.YtlbgffhipondiaaGreatDoor.wir.val
namespace Go.Proofs.YtlbgffhipondiaaGreatDoor.wir.val
open Go.RowKit Go.YtlbgffhipondiaaGreatDoor
set_option linter.unusedVariables false
theorem ownI_slice {base : Nat} {E : TypeId} {w : World} {v : Value} {n : Nat} {F : List Int} (h : OwnI base E w v n F) : ∃ a c, v = .slice a n c := by
  rcases h.2 with ⟨rfl, h0⟩ | ⟨k, cap, cur, rfl, _⟩
  · rw [h0]; exact ⟨_, _, rfl⟩
  · exact ⟨_, _, rfl⟩
theorem ownI_set {base : Nat} {E : TypeId} {w : World} {v : Value} {n : Nat} {F : List Int} (h : OwnI base E w v n F) {g : Nat} (hg : g < base) (i : Nat) (x : Value) : OwnI base E (w.setCell ⟨g, i, none⟩ x) v n F := by
  refine ⟨h.1, ?_⟩
  rcases h.2 with hn | ⟨k, cap, cur, rfl, hbk, hk, rest⟩
  · exact .inl hn
  · exact .inr ⟨k, cap, cur, rfl, hbk, (setCell_rows g i x k (by omega)).trans hk, rest⟩
/-- Two slices of one's own, of ints and of ids, are apart, as' their blocks have different types. -/
theorem ownK_apart {B : Nat} {w w' : World} {v u : Value} {l : List Nat} {m : Nat} {FT : List Int} {E E' : TypeId} (hE : E ≠ E') (h : OwnK B E w v l) (hu : OwnI B E' w u m FT) (hg : w.grownBy w' u.ownBlock) : OwnK B E w' v l := by
  refine ⟨h.1, ?_⟩
  rcases h.2 with hn | ⟨k, cap, cur, rfl, hbk, hk, rest⟩
  · exact .inl hn
  · refine .inr ⟨k, cap, cur, rfl, hbk, (hg.block k (Array.getElem?_eq_some_iff.1 hk).1 ?_).trans hk, rest⟩
    intro e
    rcases hu.2 with ⟨rfl, _⟩ | ⟨k2, cap2, cur2, rfl, _, hk2, _⟩
    · cases e
    · injection e with e
      have e : k = k2 := e
      subst e
      rw [hk] at hk2
      injection hk2 with hk2
      injection hk2 with _ h3 _
      exact hE h3
theorem ownI_apart {B : Nat} {w w' : World} {v u : Value} {l : List Nat} {m : Nat} {FT : List Int} {E E' : TypeId} (hE : E ≠ E') (h : OwnK B E w v l) (hu : OwnI B E' w u m FT) (hg : w.grownBy w' v.ownBlock) : OwnI B E' w' u m FT := by
  refine ⟨hu.1, ?_⟩
  rcases hu.2 with hn | ⟨k, cap, cur, rfl, hbk, hk, rest⟩
  · exact .inl hn
  · refine .inr ⟨k, cap, cur, rfl, hbk, (hg.block k (Array.getElem?_eq_some_iff.1 hk).1 ?_).trans hk, rest⟩
    intro e
    rcases h.2 with ⟨rfl, _⟩ | ⟨k2, cap2, cur2, rfl, _, hk2, _⟩
    · cases e
    · injection e with e
      have e : k = k2 := e
      subst e
      rw [hk] at hk2
      injection hk2 with hk2
      injection hk2 with _ h3 _
      exact hE h3.symm
def ordA : List (List Nat) := [[], [], [], [], [3], [2, 3, 4], [], [], [7], [], [7, 8, 9], [7, 8, 9, 10], [7, 8, 9, 10, 11], [2, 3, 4, 5, 6, 7, 8, 9, 10, 11, 12], [2, 3, 4, 5, 6, 7, 8, 9, 10, 11, 12, 13], [2, 3, 4, 5, 6, 7, 8, 9, 10, 11, 12, 13, 14], [0, 1, 2, 3, 4, 5, 6, 7, 8, 9, 10, 11, 12, 13, 14, 15], [0, 1, 2, 3, 4, 5, 6, 7, 8, 9, 10, 11, 12, 13, 14, 15, 16], [0, 1, 2, 3, 4, 5, 6, 7, 8, 9, 10, 11, 12, 13, 14, 15, 16, 17]]
def ordΦ (n k m gT g0 ib io ic B s4 : Nat) (vo vt : Value) (l : List Nat) (FT A : List Int) : Nat → Value → World → Prop
  | 0, v, _ => v = .slice (some ⟨gT, 0, none⟩) n n
  | 1, v, _ => v = .int .i64 (k : Int)
  | 2, v, _ => v = vo
  | 3, v, _ => v = .int .i64 (k : Int)
  | 4, v, w => ∃ g, v = .slice (some ⟨g, 0, none⟩) 1 1 ∧ s4 ≤ g ∧ w.heap[g]? = some (.cells #[.int .i64 (k : Int)] 3 (0, 0))
  | 5, v, w => OwnK B 3 w v (l ++ [k])
  | 6, v, _ => v = vt
  | 7, v, _ => v = .pointer (some ⟨g0, 0, none⟩)
  | 8, v, _ => v = .slice (some ⟨ib, io, none⟩) n ic
  | 9, v, _ => v = .int .i64 (k : Int)
  | 10, v, _ => v = .pointer (some ⟨ib, io + k * 32, none⟩)
  | 11, v, _ => v = .agg (u8s A)
  | 12, v, w => ∃ g, v = .slice (some ⟨g, 0, none⟩) 1 1 ∧ s4 ≤ g ∧ w.heap[g]? = some (.cells (u8s A) 24 (0, 0))
  | 13, v, w => OwnI B 24 w v (m + 1) (FT ++ A)
  | 14, v, w => OwnK B 3 w v (l ++ [k])
  | 15, v, w => OwnI B 24 w v (m + 1) (FT ++ A)
  | _, _, _ => True
def ordG (B m : Nat) (vo vt : Value) (l : List Nat) (FT : List Int) (i : Nat) (w w' : World) : Prop :=
  w' = w ∨ ((i = 4 ∨ i = 12) ∧ Below w.heap.size w w') ∨ (i = 5 ∧ OwnK B 3 w vo l ∧ w.grownBy w' vo.ownBlock ∧ Below B w w') ∨ (i = 13 ∧ OwnI B 24 w vt m FT ∧ w.grownBy w' vt.ownBlock ∧ Below B w w')
def ordΨ (B m : Nat) (vo vt : Value) (l : List Nat) (FT : List Int) : Nat → World → Prop
  | 5, w => OwnK B 3 w vo l
  | 13, w => OwnI B 24 w vt m FT
  | _, _ => True
theorem ord_keeps {n k m gT g0 ib io ic B s4 : Nat} {vo vt : Value} {l : List Nat} {FT A : List Int} (hvo : ∀ b, vo.ownBlock = some b → b < s4) (hvt : ∀ b, vt.ownBlock = some b → b < s4) (i j : Nat) (v : Value) (w w' : World) (hi : i < 16) (hj : j < 16) (ha : fxAfter ordA i j = true)
    (h : ordΦ n k m gT g0 ib io ic B s4 vo vt l FT A j v w) (hg : ordG B m vo vt l FT i w w') : ordΦ n k m gT g0 ib io ic B s4 vo vt l FT A j v w' := by
  have hT : (3 : TypeId) ≠ 24 := by decide
  rcases hg with rfl | ⟨_, hb⟩ | ⟨rfl, hk, hg, hb⟩ | ⟨rfl, hk, hg, hb⟩
  · exact h
  · match j, hj with
    | 0, _ => exact h
    | 1, _ => exact h
    | 2, _ => exact h
    | 3, _ => exact h
    | 4, _ => obtain ⟨g, h1, h2, h3⟩ := h; exact ⟨g, h1, h2, rowB h3 hb (Array.getElem?_eq_some_iff.1 h3).1⟩
    | 5, _ => exact OwnK.kept h hb
    | 6, _ => exact h
    | 7, _ => exact h
    | 8, _ => exact h
    | 9, _ => exact h
    | 10, _ => exact h
    | 11, _ => exact h
    | 12, _ => obtain ⟨g, h1, h2, h3⟩ := h; exact ⟨g, h1, h2, rowB h3 hb (Array.getElem?_eq_some_iff.1 h3).1⟩
    | 13, _ => exact OwnI.kept h hb
    | 14, _ => exact OwnK.kept h hb
    | 15, _ => exact OwnI.kept h hb
    | j' + 16, hj' => exact absurd hj' (by omega)
  · match j, hj with
    | 0, _ => exact h
    | 1, _ => exact h
    | 2, _ => exact h
    | 3, _ => exact h
    | 4, _ => obtain ⟨g, h1, h2, h3⟩ := h; exact ⟨g, h1, h2, grownRow hg h3 fun e => by have := hvo g e.symm; omega⟩
    | 5, _ => exact absurd ha (by decide)
    | 6, _ => exact h
    | 7, _ => exact h
    | 8, _ => exact h
    | 9, _ => exact h
    | 10, _ => exact h
    | 11, _ => exact h
    | 12, _ => obtain ⟨g, h1, h2, h3⟩ := h; exact ⟨g, h1, h2, grownRow hg h3 fun e => by have := hvo g e.symm; omega⟩
    | 13, _ => exact absurd ha (by decide)
    | 14, _ => exact absurd ha (by decide)
    | 15, _ => exact absurd ha (by decide)
    | j' + 16, hj' => exact absurd hj' (by omega)
  · match j, hj with
    | 0, _ => exact h
    | 1, _ => exact h
    | 2, _ => exact h
    | 3, _ => exact h
    | 4, _ => obtain ⟨g, h1, h2, h3⟩ := h; exact ⟨g, h1, h2, grownRow hg h3 fun e => by have := hvt g e.symm; omega⟩
    | 5, _ => exact ownK_apart hT h hk hg
    | 6, _ => exact h
    | 7, _ => exact h
    | 8, _ => exact h
    | 9, _ => exact h
    | 10, _ => exact h
    | 11, _ => exact h
    | 12, _ => obtain ⟨g, h1, h2, h3⟩ := h; exact ⟨g, h1, h2, grownRow hg h3 fun e => by have := hvt g e.symm; omega⟩
    | 13, _ => exact absurd ha (by decide)
    | 14, _ => exact absurd ha (by decide)
    | 15, _ => exact absurd ha (by decide)
    | j' + 16, hj' => exact absurd hj' (by omega)
theorem ord_pre {B m : Nat} {vo vt : Value} {l : List Nat} {FT : List Int} (i j : Nat) (w w' : World) (hi : i < 16) (hj : j < 16) (ha : fxBefore ordA i j = true) (h : ordΨ B m vo vt l FT j w) (hg : ordG B m vo vt l FT i w w') : ordΨ B m vo vt l FT j w' := by
  have hT : (3 : TypeId) ≠ 24 := by decide
  rcases hg with rfl | ⟨_, hb⟩ | ⟨rfl, hk, hg, hb⟩ | ⟨rfl, hk, hg, hb⟩
  · exact h
  · match j, hj with
    | 0, _ => exact trivial
    | 1, _ => exact trivial
    | 2, _ => exact trivial
    | 3, _ => exact trivial
    | 4, _ => exact trivial
    | 5, _ => exact OwnK.kept h hb
    | 6, _ => exact trivial
    | 7, _ => exact trivial
    | 8, _ => exact trivial
    | 9, _ => exact trivial
    | 10, _ => exact trivial
    | 11, _ => exact trivial
    | 12, _ => exact trivial
    | 13, _ => exact OwnI.kept h hb
    | 14, _ => exact trivial
    | 15, _ => exact trivial
    | j' + 16, hj' => exact absurd hj' (by omega)
  · match j, hj with
    | 0, _ => exact trivial
    | 1, _ => exact trivial
    | 2, _ => exact trivial
    | 3, _ => exact trivial
    | 4, _ => exact trivial
    | 5, _ => exact absurd ha (by decide)
    | 6, _ => exact trivial
    | 7, _ => exact trivial
    | 8, _ => exact trivial
    | 9, _ => exact trivial
    | 10, _ => exact trivial
    | 11, _ => exact trivial
    | 12, _ => exact trivial
    | 13, _ => exact ownI_apart hT hk h hg
    | 14, _ => exact trivial
    | 15, _ => exact trivial
    | j' + 16, hj' => exact absurd hj' (by omega)
  · match j, hj with
    | 0, _ => exact trivial
    | 1, _ => exact trivial
    | 2, _ => exact trivial
    | 3, _ => exact trivial
    | 4, _ => exact trivial
    | 5, _ => exact absurd ha (by decide)
    | 6, _ => exact trivial
    | 7, _ => exact trivial
    | 8, _ => exact trivial
    | 9, _ => exact trivial
    | 10, _ => exact trivial
    | 11, _ => exact trivial
    | 12, _ => exact trivial
    | 13, _ => exact absurd ha (by decide)
    | 14, _ => exact trivial
    | 15, _ => exact trivial
    | j' + 16, hj' => exact absurd hj' (by omega)
theorem ord_inv {B m : Nat} {vo vt : Value} {l : List Nat} {FT : List Int} {w4 : World} (i : Nat) (w w' : World) (hB : B ≤ w4.heap.size) (h : Below B w4 w) (hg : ordG B m vo vt l FT i w w') : Below B w4 w' := by
  rcases hg with rfl | ⟨_, hb⟩ | ⟨rfl, hk, hg, hb⟩ | ⟨rfl, hk, hg, hb⟩
  · exact h
  · exact h.trans (hb.mono (Nat.le_trans hB h.size))
  · exact h.trans hb
  · exact h.trans hb
section
variable {P : Program}
theorem run_appendK1 (w : World) (base : Nat) (t ty e : TypeId) (ht : P.underlying t = some (.slice e)) (hinfo : (P.info? e).map (fun i => (i.zero, i.size, i.bytes)) = some (some (.int .i64 0), 1, 8))
    (v : Value) (l : List Nat) (hown : OwnK base e w v l) (g c : Nat) (p : Nat) (E : TypeId) (hrow : w.heap[g]? = some (.cells #[.int .i64 (p : Int)] E (0, 0))) (hlen : l.length ≤ 1000000) (hbase : base ≤ w.heap.size) :
    ∃ v' w', (Builtin.append_ #[t, t] ty #[v, .slice (some ⟨g, 0, none⟩) 1 c]).run P w = .ok v' w' ∧ OwnK base e w' v' (l ++ [p]) ∧ w.grownBy w' v.ownBlock := by
  obtain ⟨i, hi, hz, hsz, hb⟩ := info_parts hinfo
  obtain ⟨v', w', hrun, h2, h3, _⟩ := run_append_own (P := P) w base t ty e i (.int .i64 0) 1 8 ht hi hz hsz hb rfl (by omega) v l.length (kV l) hown ⟨g, 0, none⟩ 1 c (kV [p])
    rfl (fun j u hu => by
      have hj : j = 0 := by
        have := (List.getElem?_eq_some_iff.1 hu).1
        simp [kV] at this; exact this
      subst hj
      rw [addr_add, Nat.zero_add, cell_of_row _ _ _ _ _ _ hrow]
      exact hu) (kV_one [p]) (by unfold maxLen; omega) (by omega) hbase
  refine ⟨v', w', hrun, ?_, h3⟩
  unfold OwnK
  rw [List.length_append, kV, List.map_append]
  exact h2
theorem run_appendI1 (w : World) (base : Nat) (t ty e : TypeId) (ht : P.underlying t = some (.slice e)) (hinfo : (P.info? e).map (fun i => (i.zero, i.size, i.bytes)) = some (some (.agg (u8s (zerosB 32))), 32, 32))
    (v : Value) (n : Nat) (F : List Int) (hown : OwnI base e w v n F) (g c : Nat) (A : List Int) (hA : A.length = 32) (E : TypeId) (hrow : w.heap[g]? = some (.cells (u8s A) E (0, 0))) (hlen : n ≤ 1000000) (hbase : base ≤ w.heap.size) :
    ∃ v' w', (Builtin.append_ #[t, t] ty #[v, .slice (some ⟨g, 0, none⟩) 1 c]).run P w = .ok v' w' ∧ OwnI base e w' v' (n + 1) (F ++ A) ∧ w.grownBy w' v.ownBlock := by
  obtain ⟨i, hi, hz, hsz, hb⟩ := info_parts hinfo
  obtain ⟨v', w', hrun, h2, h3, _⟩ := run_append_own (P := P) w base t ty e i (.agg (u8s (zerosB 32))) 32 32 ht hi hz hsz hb (by simp [Value.cells, u8s_size, zerosB_length]) (by omega) v n (u8v F) hown ⟨g, 0, none⟩ 1 c (u8v A)
    (by rw [u8v_length, hA]) (fun j u hu => by
      have hj : j < A.length := by
        have := (List.getElem?_eq_some_iff.1 hu).1
        rw [u8v_length] at this; exact this
      rw [u8v_get A j hj] at hu
      rw [addr_add, Nat.zero_add, cell_of_row _ _ _ _ _ _ hrow, u8s_get _ _ hj]; exact hu) (u8v_one A) (by unfold maxLen; omega) (by omega) hbase
  rw [← u8v_append] at h2
  exact ⟨v', w', hrun, h2, h3⟩
theorem fx_assign {ops : Array Oper} {o : Oper} {a : Act} {w : World} {R : Value → World → Prop} (x : Operand) (hg : o.guard = none) (ho : o.op = .assign x) (hR : R (a.eval x) w) : FxStep P ops o a w R :=
  fx_val (v := a.eval x) (w' := w) (by simp [Region.wanted, hg]) (by unfold execOp; simp [ho, go_sem]) hR
theorem fx_append2 {ops : Array Oper} {o : Oper} {a : Act} {w w' : World} {R : Value → World → Prop} {v v' u : Value} (s x : Operand) (t : TypeId) (hg : o.guard = none) (ho : o.op = .call { callee := .builtin .append, args := #[s, x], argTypes := #[t, t] })
    (hs : a.eval s = v) (hx : a.eval x = u) (hrun : (Builtin.append_ #[t, t] o.type #[v, u]).run P w = .ok v' w') (hR : R v' w') : FxStep P ops o a w R :=
  fx_val (v := v') (w' := w') (by simp [Region.wanted, hg]) (by
    unfold execOp
    simp only [ho, resolve, invoke, builtin, Sem.run_bind, Sem.run_pure, Result.andThen_ok, List.map_toArray, List.map_cons, List.map_nil, hs, hx, hrun]) hR
end
end Go.Proofs.YtlbgffhipondiaaGreatDoor.wir.val
namespace Go.Proofs.YtlbgffhipondiaaGreatDoor.wir.val
open Go.RowKit Go.YtlbgffhipondiaaGreatDoor
set_option linter.unusedVariables false
/-- What Order answers. -/
def OrdPost (F : List Int) (n : Nat) (L : List Od) (w : World) (e : Ending) (w' : World) : Prop :=
  ∃ v l, e = .returned v ∧ RdK w' v l ∧ OrdOk F n L l ∧ (l.length = n ↔ AllTk F n L) ∧ l.length ≤ n ∧ Below w.heap.size w w'
theorem ordPost_eq {F : List Int} {n : Nat} {L : List Od} {w : World} {e e' : Ending} {w' : World} (h : OrdPost F n L w e w') (he : e' = e) : OrdPost F n L w e' w' := he ▸ h
/-- What holds when the outer loop begins anew. -/
def OrdRel (F : List Int) (n : Nat) (L : List Od) (B g : Nat) (o t a : Value) (w : World) (l : List Nat) (FT : List Int) (T : List Bool) (ag : Bool) : Prop :=
  OrdI F n L l FT T ∧ a = .bool ag ∧ OwnK B 3 w o l ∧ OwnI B 24 w t l.length FT ∧ w.heap[g]? = some (.cells (tkS T) 4 (0, 0)) ∧
  (ag = false → ∀ i, i < n → tkAt T i = false → allF FT l.length (nthO L i).F (nthO L i).n = false)
set_option maxHeartbeats 16000000 in
set_option maxRecDepth 100000 in
theorem rOrder_any (F : List Int) (n : Nat) (L : List Od) (iv ov : Value) (w : World) (hI : RdI w iv n F) (hO : RdO w ov L) (hn : L.length = n) (hm : n ≤ 10000) (hfit : ∀ i, i < n → (nthO L i).n ≤ 100000) :
    Calls Tryz.prog 40 #[.agg (gC iv ov)] w fun e w' => OrdPost F n L w e w' := by
  have hlen := Lib.hid hI.len
  obtain ⟨ia, ic, rfl⟩ := hI.slice
  obtain ⟨oa, oc, rfl⟩ := hO.slice
  rw [hn] at hO ⊢
  obtain ⟨W, hW⟩ : ∃ W, W = (w.alloc (.cells (gC (.slice ia n ic) (.slice oa n oc)) 41)).alloc (.cells (tkS (List.replicate n false)) 4) := ⟨_, rfl⟩
  have hS := Lib.hid (show Below w.heap.size w W by rw [hW]; exact ((Below.refl w.heap.size w).alloc (Nat.le_refl _) _).alloc (by simp) _)
  have r0 := Lib.hid (show W.heap[w.heap.size]? = some (.cells (gC (.slice ia n ic) (.slice oa n oc)) 41 (0, 0)) by rw [hW]; exact rowB (heap_alloc_new w _) (below_a _ _) (by simp))
  have r1 := Lib.hid (show W.heap[w.heap.size + 1]? = some (.cells (tkS (List.replicate n false)) 4 (0, 0)) by rw [hW]; exact hn2 w _ _)
  have hW2 := Lib.hid (show W.heap.size = w.heap.size + 2 by rw [hW]; simp)
  have hI' := Lib.hid hI; have hO' := Lib.hid hO; have hfit' := Lib.hid hfit; have hn' := Lib.hid hn
  have hmk := fun wz : World => run_makeT wz n (Nat.le_trans hm (by decide))
  have cw0 : (w.alloc (.cells (gC (.slice ia n ic) (.slice oa n oc)) 41)).cell? ⟨w.heap.size, 1, none⟩ = some (.slice oa n oc) := by rw [cell_of_row _ _ _ _ _ _ (heap_alloc_new w _)]; rfl
  clear hI hO hfit hn
  go_enter Tryz.func40, Tryz.ntmps40
  go_upto_region 4 with fail
  rw [← hW]
  clear hW cw0 hmk
  go_wp2
  go_loopw [3, 4, 6] (fun ov tv av wr => ∃ (l : List Nat) (FT : List Int) (T : List Bool) (ag : Bool), OrdRel F n L W.heap.size (w.heap.size + 1) ov tv av wr l FT T ag ∧ wr.heap[w.heap.size]? = some (.cells (gC (.slice ia n ic) (.slice oa n oc)) 41 (0, 0)) ∧ Below w.heap.size w wr ∧ W.heap.size ≤ wr.heap.size) (fun ov _ av _ => match av with | .bool true => n + 1 - (match ov with | .slice _ k _ => k | _ => 0) | _ => 0)
  case atStart => exact ⟨[], [], List.replicate n false, true, ⟨ordI_nil F n L, rfl, OwnK.nil _ _ _, OwnI.nil _ _ _, r1.out, fun h => by cases h⟩, r0.out, hS.out, Nat.le_refl _⟩
  case round =>
    obtain ⟨l, FT, T, ag, ⟨hP, rfl, ho, ht, hr, hstuck⟩, hbox, hb, hWs⟩ := hrel
    have hP' := Lib.hid hP; have ho' := Lib.hid ho; have ht' := Lib.hid ht; have hr' := Lib.hid hr; have hst' := Lib.hid hstuck; have hbox' := Lib.hid hbox; have hb' := Lib.hid hb; have hWs' := Lib.hid hWs
    obtain ⟨va, vc, rfl⟩ := ho.slice
    obtain ⟨ta, tc, rfl⟩ := ownI_slice ht
    obtain ⟨m, hml⟩ : ∃ m, l.length = m := ⟨_, rfl⟩
    have hmh := Lib.hid hml
    have hle := ordI_le hP
    rw [hml] at hle ht' ho' hst' ⊢
    clear hP ho ht hr hstuck hbox hb hWs hml
    cases ag with
    | false =>
      have hfin := Lib.hid (show OrdPost F n L w (.returned (.slice va m vc)) wr from ⟨_, l, rfl, ho'.out.rd, hP'.out.o, ordI_stuck hn'.out hP'.out (fun i h1 h2 => by rw [hmh.out]; exact hst'.out rfl i h1 h2), ordI_le hP'.out, hb'.out⟩)
      go_wp2
      go_ret
      exact ordPost_eq hfin.out rfl
    | true =>
      obtain ⟨Wo, hWo⟩ : ∃ X, X = wr := ⟨_, rfl⟩
      rw [← hWo] at ho' ht' hr' hbox' hb' hWs'
      go_upto_region 7 with fail
      rw [← hWo]
      clear hWo
      go_wp2
      go_loopw [3, 4, 6, 7] (fun ov tv av i wr => ∃ k : Nat, k ≤ n ∧ ov = .slice va m vc ∧ tv = .slice ta m tc ∧ av = .bool false ∧ i = .int .i64 (k : Int) ∧ Below Wo.heap.size Wo wr ∧ ∀ j, j < k → tkAt T j = false → allF FT m (nthO L j).F (nthO L j).n = false) (fun _ _ _ i _ => n - (intOf i).toNat)
      case atStart => exact ⟨0, Nat.zero_le _, rfl, rfl, rfl, rfl, Below.refl _ _, fun j hj => absurd hj (Nat.not_lt_zero _)⟩
      case round =>
        obtain ⟨k, hk, rfl, rfl, rfl, rfl, hbk, hno⟩ := hrel
        have hbk' := Lib.hid hbk; have hno' := Lib.hid hno
        have rb := Lib.hid (rowB hbox'.out hbk (Array.getElem?_eq_some_iff.1 hbox'.out).1)
        have rd := Lib.hid (rowB hr'.out hbk (Array.getElem?_eq_some_iff.1 hr'.out).1)
        have hbw := Lib.hid (hb'.out.trans (hbk.mono hb'.out.size))
        have cO : wr.cell? ⟨w.heap.size, 1, none⟩ = some (.slice oa n oc) := by rw [cell_of_row _ _ _ _ _ _ rb.out]; rfl
        have hho := Lib.hid (ho'.out.kept hbk)
        have hht := Lib.hid (ht'.out.kept hbk)
        clear hbk hno
        by_cases hlt : k < n
        · have ck := tkS_cell rd.out k (by have := hP'.out.lenT; omega)
          have hkI : (k : Int) < (n : Int) := by omega
          obtain ⟨b, o, pa, pc, rfl, hbl, hnc, q1, q2⟩ := rdO_at hO'.out hn'.out hbw.out k hlt
          have cP : wr.cell? ⟨b, o + k * 11 + 1, none⟩ = some (.slice pa (nthO L k).n pc) := q1 1 _ rfl
          have hAll := Lib.hid (rAll_any FT m (.slice ta m tc) (nthO L k).F (nthO L k).n (.slice pa (nthO L k).n pc) wr hht.out.rd (by omega) q2 (hfit'.out k hlt))
          have hok := Lib.hid (fun (h0 : tkAt T k = false) (h1 : allF FT m (nthO L k).F (nthO L k).n = true) => ordI_step hP'.out hlt h0 (idF_length F n k hlen.out hlt) (by rw [hmh.out]; exact h1))
          have hroom := Lib.hid (fun (h0 : tkAt T k = false) => ordI_room hP'.out hlt h0)
          have hnx := Lib.hid (fun (h : tkAt T k = true ∨ allF FT m (nthO L k).F (nthO L k).n = false) => (show ∀ j, j < k + 1 → tkAt T j = false → allF FT m (nthO L j).F (nthO L j).n = false from fun j hj hf => by
            rcases Nat.lt_or_ge j k with h1 | h1
            · exact hno'.out j h1 hf
            · obtain rfl : j = k := by omega
              rcases h with h | h
              · rw [hf] at h; cases h
              · exact h))
          clear q1 q2
          generalize allF FT m (nthO L k).F (nthO L k).n = R at *
          generalize tkAt T k = tb at *
          generalize (nthO L k).n = pn at *
          cases tb with
          | true =>
            go_wp2
            go_roundw
            case rel => exact ⟨k + 1, by omega, rfl, rfl, rfl, by go_num, hbk'.out, hnx.out (.inl rfl)⟩
            case measure => simp [intOf]; omega
          | false =>
            cases R with
            | false =>
              go_wp2_with (go_at_call 39; (with_reducible refine (hAll.out).mono ?_); rintro e9 w4 ⟨rfl, z2⟩; have hB4 := Lib.hid (hbk'.out.trans (z2.mono hbk'.out.size)); clear z2)
              go_roundw
              case rel => exact ⟨k + 1, by omega, rfl, rfl, rfl, by go_num, hB4.out, hnx.out (.inr trivial)⟩
              case measure => simp [intOf]; omega
            | true =>
              go_upto_region 11 with (go_at_call 39; (with_reducible refine (hAll.out).mono ?_); rintro e9 w4 ⟨rfl, z2⟩; have hB4 := Lib.hid (hbk'.out.trans (z2.mono hbk'.out.size)); have hz4 := Lib.hid z2; clear z2)
              have ho4 := Lib.hid (hho.out.kept hz4.out)
              have ht4 := Lib.hid (hht.out.kept hz4.out)
              have rb4 := Lib.hid (rowB rb.out hz4.out (Array.getElem?_eq_some_iff.1 rb.out).1)
              have rd4 := Lib.hid (rowB rd.out hz4.out (Array.getElem?_eq_some_iff.1 rd.out).1)
              have hbw4 := Lib.hid (hb'.out.trans (hB4.out.mono hb'.out.size))
              have hWs4 := Lib.hid (Nat.le_trans hWs'.out hB4.out.size)
              obtain ⟨ib, io, rfl, hibw, hinc, q3, _⟩ := rdI_at hI'.out hbw4.out k hlt
              have q3' := Lib.hid q3
              have hA32 := Lib.hid (idF_length F n k hlen.out hlt)
              have hord := Lib.hid (hok.out trivial trivial)
              have hrm := Lib.hid (hroom.out trivial)
              have hTl := Lib.hid (hP'.out.lenT)
              clear q3 cO cP ck hok hroom hnx hno' hho hht rb rd hbw hAll
              generalize idF F k = A at *
              have hvo : ∀ b, (Value.slice va m vc).ownBlock = some b → b < w4.heap.size := fun b h => (World.ownsRow.lt ho4.out b h).2
              have hvt : ∀ b, (Value.slice ta m tc).ownBlock = some b → b < w4.heap.size := fun b h => (World.ownsRow.lt ht4.out b h).2
              have hvo := Lib.hid hvo
              have hvt := Lib.hid hvt
              have hfold0 := fold_arr (u8s A) (u8s (zerosB 32)) (by rw [u8s_size, hA32.out]; rfl)
              have hfold : Array.foldl (fun (cs : Array Value) (x : Value × Nat) => cs.setIfInBounds x.snd x.fst) #[Value.int .u8 0, Value.int .u8 0, Value.int .u8 0, Value.int .u8 0, Value.int .u8 0, Value.int .u8 0, Value.int .u8 0, Value.int .u8 0, Value.int .u8 0, Value.int .u8 0, Value.int .u8 0, Value.int .u8 0, Value.int .u8 0, Value.int .u8 0, Value.int .u8 0, Value.int .u8 0, Value.int .u8 0, Value.int .u8 0, Value.int .u8 0, Value.int .u8 0, Value.int .u8 0, Value.int .u8 0, Value.int .u8 0, Value.int .u8 0, Value.int .u8 0, Value.int .u8 0, Value.int .u8 0, Value.int .u8 0, Value.int .u8 0, Value.int .u8 0, Value.int .u8 0, Value.int .u8 0] (u8s A).zipIdx 0 32 = u8s A := by
                have e : 32 = (u8s A).zipIdx.size := by simp [u8s_size, hA32.out]
                rw [e]; exact hfold0
              have hsz : (u8s A).size = 32 := by rw [u8s_size, hA32.out]
              clear hfold0
              refine wp_region_fx 16 ordA (by kernel_rfl) (by kernel_rfl) (ordΦ n k m (w.heap.size + 1) w.heap.size ib io ic W.heap.size w4.heap.size (.slice va m vc) (.slice ta m tc) l FT A) (ordG W.heap.size m (.slice va m vc) (.slice ta m tc) l FT) (fun wz => Below W.heap.size w4 wz) (ordΨ W.heap.size m (.slice va m vc) (.slice ta m tc) l FT)
                (Below.refl _ _).drew ?hp0 (fun i w w' hi h hg => ord_inv i w w' hWs4.out h hg) (fun i j v w w' hi hj ha _ h hg => ord_keeps hvo.out hvt.out i j v w w' hi hj ha h hg) (fun i j w w' hi hj ha _ h hg => ord_pre i j w w' hi hj ha h hg) ?hstep ?hdone
              case hp0 =>
                intro j hj
                match j, hj with
                | 5, _ => exact ho4.out.kept ((Below.refl _ _).drew)
                | 13, _ => exact ht4.out.kept ((Below.refl _ _).drew)
                | 0, _ => exact trivial
                | 1, _ => exact trivial
                | 2, _ => exact trivial
                | 3, _ => exact trivial
                | 4, _ => exact trivial
                | 6, _ => exact trivial
                | 7, _ => exact trivial
                | 8, _ => exact trivial
                | 9, _ => exact trivial
                | 10, _ => exact trivial
                | 11, _ => exact trivial
                | 12, _ => exact trivial
                | 14, _ => exact trivial
                | 15, _ => exact trivial
                | j' + 16, hj' => exact absurd hj' (by omega)
              case hstep =>
                intro i op vs wz hi hop hinv hpre hd
                match i, hi with
                | 0, _ =>
                  simp only [List.getElem?_toArray, List.getElem?_cons_zero, List.getElem?_cons_succ, Option.some.injEq] at hop
                  subst hop
                  refine fx_move _ rfl rfl ?_
                  rw [fx_old 0 (by kernel_rfl)]
                  exact ⟨rfl, .inl rfl⟩
                | 1, _ =>
                  simp only [List.getElem?_toArray, List.getElem?_cons_zero, List.getElem?_cons_succ, Option.some.injEq] at hop
                  subst hop
                  refine fx_move _ rfl rfl ?_
                  rw [fx_old 1 (by kernel_rfl)]
                  exact ⟨rfl, .inl rfl⟩
                | 2, _ =>
                  simp only [List.getElem?_toArray, List.getElem?_cons_zero, List.getElem?_cons_succ, Option.some.injEq] at hop
                  subst hop
                  refine fx_move _ rfl rfl ?_
                  rw [fx_old 2 (by kernel_rfl)]
                  exact ⟨rfl, .inl rfl⟩
                | 3, _ =>
                  simp only [List.getElem?_toArray, List.getElem?_cons_zero, List.getElem?_cons_succ, Option.some.injEq] at hop
                  subst hop
                  refine fx_move _ rfl rfl ?_
                  rw [fx_old 3 (by kernel_rfl)]
                  exact ⟨rfl, .inl rfl⟩
                | 4, _ =>
                  simp only [List.getElem?_toArray, List.getElem?_cons_zero, List.getElem?_cons_succ, Option.some.injEq] at hop
                  subst hop
                  have h3 : vs 3 = .int .i64 (k : Int) := hd 3 (by decide)
                  generalize hfr : fxF _ vs fxT _ 4 = fr
                  have e : fr.eval (.tmp 38) = .int .i64 (k : Int) := by rw [← hfr]; exact (fx_new (by simp) 4 (by kernel_rfl)).trans h3
                  clear hfr
                  refine fx_val (v := .slice (some ⟨wz.heap.size, 0, none⟩) 1 1) (w' := wz.alloc (.cells #[.int .i64 (k : Int)] 3)) rfl ?_ ⟨⟨wz.heap.size, rfl, hinv.size, heap_alloc_new wz _⟩, .inr (.inl ⟨.inl rfl, below_a wz _⟩)⟩
                  unfold execOp
                  generalize fr.eval = ev at e ⊢
                  simp [go_sem, e]
                | 5, _ =>
                  simp only [List.getElem?_toArray, List.getElem?_cons_zero, List.getElem?_cons_succ, Option.some.injEq] at hop
                  subst hop
                  have h2 : vs 2 = .slice va m vc := hd 2 (by decide)
                  obtain ⟨g, h4, hg4, hr4⟩ : ∃ g, vs 4 = .slice (some ⟨g, 0, none⟩) 1 1 ∧ w4.heap.size ≤ g ∧ wz.heap[g]? = some (.cells #[.int .i64 (k : Int)] 3 (0, 0)) := hd 4 (by decide)
                  obtain ⟨v', w', hrun, hown, hgr⟩ := run_appendK1 (P := Tryz.prog) wz W.heap.size 72 72 3 Tryz.underlying72 (by kernel_rfl) (.slice va m vc) l hpre g 1 k _ hr4 (by have := hmh.out; omega) (Nat.le_trans hWs4.out hinv.size)
                  generalize hfr : fxF _ vs fxT _ 5 = fr
                  have e1 : fr.eval (.tmp 37) = .slice va m vc := by rw [← hfr]; exact (fx_new (by simp) 5 (by kernel_rfl)).trans h2
                  have e2 : fr.eval (.tmp 39) = .slice (some ⟨g, 0, none⟩) 1 1 := by rw [← hfr]; exact (fx_new (by simp) 5 (by kernel_rfl)).trans h4
                  clear hfr
                  exact fx_append2 _ _ 72 rfl rfl e1 e2 hrun ⟨hown, .inr (.inr (.inl ⟨rfl, hpre, hgr, OwnK.below hpre hgr (Nat.le_trans hWs4.out hinv.size)⟩))⟩
                | 6, _ =>
                  simp only [List.getElem?_toArray, List.getElem?_cons_zero, List.getElem?_cons_succ, Option.some.injEq] at hop
                  subst hop
                  refine fx_move _ rfl rfl ?_
                  rw [fx_old 6 (by kernel_rfl)]
                  exact ⟨rfl, .inl rfl⟩
                | 7, _ =>
                  simp only [List.getElem?_toArray, List.getElem?_cons_zero, List.getElem?_cons_succ, Option.some.injEq] at hop
                  subst hop
                  generalize hfr : fxF _ vs fxT _ 7 = fr
                  have e : fr.eval (.tmp 1) = .pointer (some ⟨w.heap.size, 0, none⟩) := by rw [← hfr]; exact fx_old 7 (by kernel_rfl)
                  clear hfr
                  refine fx_val (v := .pointer (some ⟨w.heap.size, 0, none⟩)) (w' := wz) rfl ?_ ⟨rfl, .inl rfl⟩
                  unfold execOp
                  generalize fr.eval = ev at e ⊢
                  simp [go_sem, e]
                | 8, _ =>
                  simp only [List.getElem?_toArray, List.getElem?_cons_zero, List.getElem?_cons_succ, Option.some.injEq] at hop
                  subst hop
                  have h7 : vs 7 = .pointer (some ⟨w.heap.size, 0, none⟩) := hd 7 (by decide)
                  generalize hfr : fxF _ vs fxT _ 8 = fr
                  have e : fr.eval (.tmp 42) = .pointer (some ⟨w.heap.size, 0, none⟩) := by rw [← hfr]; exact (fx_new (by simp) 8 (by kernel_rfl)).trans h7
                  clear hfr
                  have cI : wz.cell? ⟨w.heap.size, 0, none⟩ = some (.slice (some ⟨ib, io, none⟩) n ic) := by rw [cell_of_row _ _ _ _ _ _ ((hinv.block w.heap.size (by have := hW2.out; omega)).trans rb4.out)]; rfl
                  refine fx_val (v := .slice (some ⟨ib, io, none⟩) n ic) (w' := wz) rfl ?_ ⟨rfl, .inl rfl⟩
                  unfold execOp
                  generalize fr.eval = ev at e ⊢
                  simp [go_sem, e, cI]
                | 9, _ =>
                  simp only [List.getElem?_toArray, List.getElem?_cons_zero, List.getElem?_cons_succ, Option.some.injEq] at hop
                  subst hop
                  refine fx_move _ rfl rfl ?_
                  rw [fx_old 9 (by kernel_rfl)]
                  exact ⟨rfl, .inl rfl⟩
                | 10, _ =>
                  simp only [List.getElem?_toArray, List.getElem?_cons_zero, List.getElem?_cons_succ, Option.some.injEq] at hop
                  subst hop
                  have h8 : vs 8 = .slice (some ⟨ib, io, none⟩) n ic := hd 8 (by decide)
                  have h9 : vs 9 = .int .i64 (k : Int) := hd 9 (by decide)
                  generalize hfr : fxF _ vs fxT _ 10 = fr
                  have e : fr.eval (.tmp 43) = .slice (some ⟨ib, io, none⟩) n ic := by rw [← hfr]; exact (fx_new (by simp) 10 (by kernel_rfl)).trans h8
                  have e2 : fr.eval (.tmp 44) = .int .i64 (k : Int) := by rw [← hfr]; exact (fx_new (by simp) 10 (by kernel_rfl)).trans h9
                  clear hfr
                  refine fx_val (v := .pointer (some ⟨ib, io + k * 32, none⟩)) (w' := wz) rfl ?_ ⟨rfl, .inl rfl⟩
                  unfold execOp
                  generalize fr.eval = ev at e e2 ⊢
                  simp [go_sem, e, e2]
                  intro hkn; omega
                | 11, _ =>
                  simp only [List.getElem?_toArray, List.getElem?_cons_zero, List.getElem?_cons_succ, Option.some.injEq] at hop
                  subst hop
                  have h10 : vs 10 = .pointer (some ⟨ib, io + k * 32, none⟩) := hd 10 (by decide)
                  generalize hfr : fxF _ vs fxT _ 11 = fr
                  have e : fr.eval (.tmp 45) = .pointer (some ⟨ib, io + k * 32, none⟩) := by rw [← hfr]; exact (fx_new (by simp) 11 (by kernel_rfl)).trans h10
                  clear hfr
                  have hrg : wz.rangeAt ib (io + k * 32) (idV A) := fun j v hv => (show wz.cell? ⟨ib, io + k * 32 + j, none⟩ = w4.cell? ⟨ib, io + k * 32 + j, none⟩ from World.cell?_of_block (hinv.block ib (by have := hW2.out; omega))).trans (q3'.out j v hv)
                  have i1 : (Tryz.prog.info? 24).map (·.size) = some (idV A).length := by rw [idV_length, hA32.out]; kernel_rfl
                  refine fx_val (v := .agg (u8s A)) (w' := wz) rfl ?_ ⟨rfl, .inl rfl⟩
                  unfold execOp
                  generalize fr.eval = ev at e ⊢
                  simp only [e, Instr.loadAt, Instr.sureAddr, Sem.run_bind, Sem.run_pure, Result.andThen_ok, run_loadVar_mid wz ib (io + k * 32) 24 (idV A) _ hrg Tryz.underlying24 rfl i1]
                  rfl
                | 12, _ =>
                  simp only [List.getElem?_toArray, List.getElem?_cons_zero, List.getElem?_cons_succ, Option.some.injEq] at hop
                  subst hop
                  have h11 : vs 11 = .agg (u8s A) := hd 11 (by decide)
                  generalize hfr : fxF _ vs fxT _ 12 = fr
                  have e : fr.eval (.tmp 46) = .agg (u8s A) := by rw [← hfr]; exact (fx_new (by simp) 12 (by kernel_rfl)).trans h11
                  clear hfr
                  refine fx_val (v := .slice (some ⟨wz.heap.size, 0, none⟩) 1 1) (w' := wz.alloc (.cells (u8s A) 24)) rfl ?_ ⟨⟨wz.heap.size, rfl, hinv.size, heap_alloc_new wz _⟩, .inr (.inl ⟨.inr rfl, below_a wz _⟩)⟩
                  unfold execOp
                  generalize fr.eval = ev at e ⊢
                  simp [go_sem, e, hsz, hfold]
                | 13, _ =>
                  simp only [List.getElem?_toArray, List.getElem?_cons_zero, List.getElem?_cons_succ, Option.some.injEq] at hop
                  subst hop
                  have h6 : vs 6 = .slice ta m tc := hd 6 (by decide)
                  obtain ⟨g, h12, hg12, hr12⟩ : ∃ g, vs 12 = .slice (some ⟨g, 0, none⟩) 1 1 ∧ w4.heap.size ≤ g ∧ wz.heap[g]? = some (.cells (u8s A) 24 (0, 0)) := hd 12 (by decide)
                  obtain ⟨v', w', hrun, hown, hgr⟩ := run_appendI1 (P := Tryz.prog) wz W.heap.size 26 26 24 Tryz.underlying26 (by kernel_rfl) (.slice ta m tc) m FT hpre g 1 A hA32.out _ hr12 (by omega) (Nat.le_trans hWs4.out hinv.size)
                  generalize hfr : fxF _ vs fxT _ 13 = fr
                  have e1 : fr.eval (.tmp 41) = .slice ta m tc := by rw [← hfr]; exact (fx_new (by simp) 13 (by kernel_rfl)).trans h6
                  have e2 : fr.eval (.tmp 47) = .slice (some ⟨g, 0, none⟩) 1 1 := by rw [← hfr]; exact (fx_new (by simp) 13 (by kernel_rfl)).trans h12
                  clear hfr
                  exact fx_append2 _ _ 26 rfl rfl e1 e2 hrun ⟨hown, .inr (.inr (.inr ⟨rfl, hpre, hgr, OwnI.below hpre hgr (Nat.le_trans hWs4.out hinv.size)⟩))⟩
                | 14, _ =>
                  simp only [List.getElem?_toArray, List.getElem?_cons_zero, List.getElem?_cons_succ, Option.some.injEq] at hop
                  subst hop
                  generalize hfr : fxF _ vs fxT _ 14 = fr
                  have e : fr.eval (.tmp 40) = vs 5 := by rw [← hfr]; exact fx_new (by simp) 14 (by kernel_rfl)
                  clear hfr
                  refine fx_assign _ rfl rfl ?_
                  rw [e]
                  exact ⟨hd 5 (by decide), .inl rfl⟩
                | 15, _ =>
                  simp only [List.getElem?_toArray, List.getElem?_cons_zero, List.getElem?_cons_succ, Option.some.injEq] at hop
                  subst hop
                  generalize hfr : fxF _ vs fxT _ 15 = fr
                  have e : fr.eval (.tmp 48) = vs 13 := by rw [← hfr]; exact fx_new (by simp) 15 (by kernel_rfl)
                  clear hfr
                  refine fx_assign _ rfl rfl ?_
                  rw [e]
                  exact ⟨hd 13 (by decide), .inl rfl⟩
                | i' + 16, hi' => exact absurd hi' (by omega)
              case hdone =>
                intro vs w5 hinv hf
                have h0 : vs 0 = .slice (some ⟨w.heap.size + 1, 0, none⟩) n n := hf 0 (by decide)
                have h1 : vs 1 = .int .i64 (k : Int) := hf 1 (by decide)
                have h14 : OwnK W.heap.size 3 w5 (vs 14) (l ++ [k]) := hf 14 (by decide)
                have h15 : OwnI W.heap.size 24 w5 (vs 15) (m + 1) (FT ++ A) := hf 15 (by decide)
                have hl1 : (l ++ [k]).length = m + 1 := by rw [List.length_append, hmh.out]; rfl
                obtain ⟨xa, xc, hx⟩ := h14.slice
                rw [hl1] at hx
                obtain ⟨ya, yc, hy⟩ := ownI_slice h15
                simp only [fxF, fxT, if_true, List.drop_succ_cons, List.drop_zero, List.getElem?_toArray, List.getElem?_cons_zero, List.getElem?_cons_succ, Option.bind_some]
                rw [hx] at h14
                rw [hy] at h15
                rw [h0, h1, hx, hy]
                have h14' := Lib.hid h14
                have h15' := Lib.hid h15
                have rb5 := Lib.hid ((hinv.block w.heap.size (by have := hW2.out; omega)).trans rb4.out)
                have rd5 := Lib.hid ((hinv.block (w.heap.size + 1) (by have := hW2.out; omega)).trans rd4.out)
                have ck5 := tkS_cell rd5.out k (by have := hTl.out; omega)
                have fk5 := frozen_of_row _ _ k _ _ rd5.out
                have hinv' := Lib.hid hinv
                clear hf h0 h1 h14 h15 hx hy hinv
                generalize vs 2 = z2 at *
                generalize vs 3 = z3 at *
                generalize vs 4 = z4 at *
                generalize vs 5 = z5 at *
                generalize vs 6 = z6 at *
                generalize vs 7 = z7 at *
                generalize vs 8 = z8 at *
                generalize vs 9 = z9 at *
                generalize vs 10 = z10 at *
                generalize vs 11 = z11 at *
                generalize vs 12 = z12 at *
                generalize vs 13 = z13 at *
                go_wp2
                go_roundw
                case rel => exact ⟨l ++ [k], FT ++ A, T.set k true, true, ⟨hord.out, rfl, ownK_set h14'.out (by have := hW2.out; omega) k _, by rw [hl1]; exact ownI_set h15'.out (by have := hW2.out; omega) k _, by rw [← tkS_set]; exact setCell_row rd5.out k _, fun h => by cases h⟩, (setCell_rows _ _ _ _ (by omega)).trans rb5.out, (hbw4.out.trans (hinv'.out.mono (by have := hW2.out; omega))).setCell (p := ⟨w.heap.size + 1, k, none⟩) (Nat.le_succ _) _, by have := hinv'.out.size; have := hWs4.out; simp [World.setCell]; omega⟩
                case measure => simp; omega
        · obtain rfl : k = n := by omega
          have hrel2 := Lib.hid (show OrdRel F k L W.heap.size (w.heap.size + 1) (.slice va m vc) (.slice ta m tc) (.bool false) wr l FT T false from ⟨hP'.out, rfl, hho.out, by rw [hmh.out]; exact hht.out, rd.out, fun _ => by rw [hmh.out]; exact hno'.out⟩)
          go_wp2
          go_roundw
          case rel => exact ⟨l, FT, T, false, hrel2.out, rb.out, hbw.out, Nat.le_trans hWs'.out hbk'.out.size⟩
          case measure => simp; omega
end Go.Proofs.YtlbgffhipondiaaGreatDoor.wir.val
namespace Go.Proofs.YtlbgffhipondiaaGreatDoor.wir.val
open Go.RowKit Go.YtlbgffhipondiaaGreatDoor
set_option linter.unusedVariables false
def shpA : List (List Nat) := [[], [0], [0, 1], [], [3], [3, 4], [0, 1, 2, 3, 4, 5]]
def shpΦ (F : List Int) (n : Nat) (L : List Od) (g0 : Nat) (gc : Array Value) (ov : Value) : Nat → Value → World → Prop
  | 0, v, _ => v = .agg gc
  | 1, v, _ => ∃ a q c, v = .slice a q c ∧ (q = n ↔ AllTk F n L) ∧ q ≤ n
  | 2, v, _ => ∃ q : Nat, v = .int .i64 (q : Int) ∧ (q = n ↔ AllTk F n L) ∧ q ≤ n
  | 3, v, _ => v = .pointer (some ⟨g0, 1, none⟩)
  | 4, v, _ => v = ov
  | 5, v, _ => v = .int .i64 (n : Int)
  | 6, v, _ => ∃ r : Bool, v = .bool r ∧ (r = true ↔ ¬ AllTk F n L)
  | _, _, _ => True
set_option maxHeartbeats 16000000 in
set_option maxRecDepth 100000 in
theorem rshape_any (F : List Int) (n : Nat) (L : List Od) (iv ov : Value) (e0 : Int) (w : World) (hI : RdI w iv n F) (hF : Bytes F) (hO : RdO w ov L) (hn : L.length = n) (hm : n ≤ 10000)
    (hfit : ∀ i, i < n → (nthO L i).n ≤ 100000) (he0 : LinkG F n L e0) :
    Calls Tryz.prog 86 #[.agg (gC iv ov)] w fun e w' => e = .returned (.int .i64 e0) ∧ Below w.heap.size w w' := by
  obtain ⟨ia, ic, rfl⟩ := hI.slice
  obtain ⟨oa, oc, rfl⟩ := hO.slice
  rw [hn] at hO ⊢
  obtain ⟨W, hW⟩ : ∃ W, W = w.alloc (.cells (gC (.slice ia n ic) (.slice oa n oc)) 41) := ⟨_, rfl⟩
  have hS := Lib.hid (show Below w.heap.size w W by rw [hW]; exact below_a w _)
  have r0 := Lib.hid (show W.heap[w.heap.size]? = some (.cells (gC (.slice ia n ic) (.slice oa n oc)) 41 (0, 0)) by rw [hW]; exact heap_alloc_new w _)
  have hrw := Lib.hid (fun (wz : World) (h : Below W.heap.size W wz) => rowB r0.out h (Array.getElem?_eq_some_iff.1 r0.out).1)
  have hc0 := Lib.hid (fun (wz : World) (h : Below W.heap.size W wz) => (show wz.cell? ⟨w.heap.size, 0, none⟩ = some (.slice ia n ic) by rw [cell_of_row _ _ _ _ _ _ (hrw.out wz h)]; rfl))
  have hc1 := Lib.hid (fun (wz : World) (h : Below W.heap.size W wz) => (show wz.cell? ⟨w.heap.size, 1, none⟩ = some (.slice oa n oc) by rw [cell_of_row _ _ _ _ _ _ (hrw.out wz h)]; rfl))
  have hri := Lib.hid (rising_any F n (.slice ia n ic) W (hI.mono hS.out) hF (by omega))
  have hI' := Lib.hid hI; have hO' := Lib.hid hO; have hfit' := Lib.hid hfit; have hn' := Lib.hid hn; have he' := Lib.hid he0
  have cW0 : W.cell? ⟨w.heap.size, 0, none⟩ = some (.slice ia n ic) := hc0.out W (Below.refl _ _)
  have h32 := Lib.hid (fun h => link_32 he0 h)
  clear hI hF hO hfit hn he0
  obtain ⟨RB, hRB⟩ : ∃ R, riseF F n = R := ⟨_, rfl⟩
  have hRB' := Lib.hid hRB
  rw [hRB] at hri h32
  clear hRB
  go_enter Tryz.func86, Tryz.ntmps86
  go_upto_region 1 with fail
  rw [← hW]
  clear hW
  cases RB with
  | false =>
    have h32' := Lib.hid (h32.out rfl)
    go_wp2_with (go_at_call 36; (with_reducible refine (hri.out).mono ?_); rintro e9 w4 ⟨rfl, z2⟩; have hB4 := Lib.hid z2; clear z2)
    go_ret
    exact ⟨by rw [h32'.out]; try rfl, hS.out.trans (hB4.out.mono hS.out.size)⟩
  | true =>
    clear h32
    go_upto_region 3 with (go_at_call 36; (with_reducible refine (hri.out).mono ?_); rintro e9 w4 ⟨rfl, z2⟩; have hB4 := Lib.hid z2; clear z2)
    clear cW0 hri
    go_wp2
    go_loopw [3] (fun i wr => ∃ k : Nat, k ≤ n ∧ i = .int .i64 (k : Int) ∧ Below W.heap.size W wr ∧ ∀ j, j < k → allF F n (nthO L j).F (nthO L j).n = true) (fun i _ => n - (intOf i).toNat)
    case atStart => exact ⟨0, Nat.zero_le _, rfl, hB4.out, fun j hj => absurd hj (Nat.not_lt_zero _)⟩
    case round =>
      obtain ⟨k, hk, rfl, hb, he⟩ := hrel
      have hall' := Lib.hid he; have hb' := Lib.hid hb
      have c1 : wr.cell? ⟨w.heap.size, 1, none⟩ = some (.slice oa n oc) := hc1.out wr hb
      clear he hb
      by_cases hlt : k < n
      · have hbS := Lib.hid (hS.out.trans (hb'.out.mono hS.out.size))
        obtain ⟨b, o, pa, pc, rfl, hbw, hnc, q1, q2⟩ := rdO_at hO'.out hn'.out hbS.out k hlt
        have hbl := Lib.hid (Nat.lt_of_lt_of_le hbw hbS.out.size)
        have cp := Lib.hid (fun (wz : World) (h : Below wr.heap.size wr wz) => (show wz.cell? ⟨b, o + k * 11 + 1, none⟩ = some (.slice pa (nthO L k).n pc) from (h.cell (p := (⟨b, o + k * 11 + 1, none⟩ : Addr)) hbl.out).trans (q1 1 _ rfl)))
        have k0 := Lib.hid (fun (wz : World) (h : Below wr.heap.size wr wz) => hc0.out wz (hb'.out.trans (h.mono hb'.out.size)))
        have k1 := Lib.hid (fun (wz : World) (h : Below wr.heap.size wr wz) => hc1.out wz (hb'.out.trans (h.mono hb'.out.size)))
        have hA := Lib.hid (fun (wz : World) (h : Below wr.heap.size wr wz) => rAll_any F n (.slice ia n ic) (nthO L k).F (nthO L k).n (.slice pa (nthO L k).n pc) wz (hI'.out.mono (hbS.out.trans (h.mono hbS.out.size))) (by omega) (q2.mono h) (hfit'.out k hlt))
        have hno := Lib.hid (fun (h : allF F n (nthO L k).F (nthO L k).n = false) => clos_false k (by have := hn'.out; omega) h)
        have hyes := Lib.hid (fun (h : allF F n (nthO L k).F (nthO L k).n = true) => (show ∀ j, j < k + 1 → allF F n (nthO L j).F (nthO L j).n = true from fun j hj => by
          rcases Nat.lt_or_ge j k with h1 | h1
          · exact hall'.out j h1
          · obtain rfl : j = k := by omega
            exact h))
        have hkI : (k : Int) < (n : Int) := by omega
        clear q1 q2
        generalize allF F n (nthO L k).F (nthO L k).n = MB at *
        generalize (nthO L k).n = pn at *
        cases MB with
        | true =>
          go_upto_region 6 with fail
          refine wp_region_quiet (C := fun w' => Below wr.heap.size wr w') (by kernel_rfl) (by kernel_rfl) ((Below.refl _ _).drew) ?_
          simp only []
          (go_big_quiet_want; go_big_quiet_op; first | go_big_quiet_on | (refine ⟨_, fun _ _ => rfl, ?_⟩; go_big_quiet_on))
          refine wpq (.slice ia n ic) rfl (quiet_cell 26 _ rfl w.heap.size 0 rfl (.slice ia n ic) k0.out Tryz.isAgg26) rfl (fun K hK => ?_); go_simp; refine hK _ ?_; clear hK K
          (go_big_quiet_want; go_big_quiet_op; first | go_big_quiet_on | (refine ⟨_, fun _ _ => rfl, ?_⟩; go_big_quiet_on))
          refine wpq (.slice (some ⟨b, o, none⟩) n oc) rfl (quiet_cell 22 _ rfl w.heap.size 1 rfl (.slice (some ⟨b, o, none⟩) n oc) k1.out Tryz.isAgg22) rfl (fun K hK => ?_); go_simp; refine hK _ ?_; clear hK K
          iterate 3 (go_big_quiet_want; go_big_quiet_op; first | go_big_quiet_on | (refine ⟨_, fun _ _ => rfl, ?_⟩; go_big_quiet_on))
          refine wpq (.slice pa pn pc) rfl (quiet_cell 26 _ rfl b (o + k * 11 + 1) rfl (.slice pa pn pc) cp.out Tryz.isAgg26) rfl (fun K hK => ?_); go_simp; refine hK _ ?_; clear hK K
          refine wpq (.bool true) rfl (quiet_call2 rfl Tryz.func39 (by kernel_rfl) rfl (.slice ia n ic) (.slice pa pn pc) (.bool true) rfl rfl rfl (fun w9 h => (hA.out w9 h).mono fun e w' ⟨he, hd⟩ => ⟨he, h.trans (hd.mono h.size)⟩)) rfl (fun K hK => ?_); go_simp; refine hK _ ?_; clear hK K
          (go_big_quiet_want; go_big_quiet_op; first | go_big_quiet_on | (refine ⟨_, fun _ _ => rfl, ?_⟩; go_big_quiet_on))
          refine wpQuiet_nil ?_
          intro w2 h2
          have hB2 := Lib.hid (hb'.out.trans (h2.mono hb'.out.size))
          clear h2
          go_wp2
          go_roundw
          case rel => exact ⟨k + 1, by omega, by go_num, hB2.out, hyes.out rfl⟩
          case measure => simp [intOf]; omega
        | false =>
          go_upto_region 6 with fail
          refine wp_region_quiet (C := fun w' => Below wr.heap.size wr w') (by kernel_rfl) (by kernel_rfl) ((Below.refl _ _).drew) ?_
          simp only []
          (go_big_quiet_want; go_big_quiet_op; first | go_big_quiet_on | (refine ⟨_, fun _ _ => rfl, ?_⟩; go_big_quiet_on))
          refine wpq (.slice ia n ic) rfl (quiet_cell 26 _ rfl w.heap.size 0 rfl (.slice ia n ic) k0.out Tryz.isAgg26) rfl (fun K hK => ?_); go_simp; refine hK _ ?_; clear hK K
          (go_big_quiet_want; go_big_quiet_op; first | go_big_quiet_on | (refine ⟨_, fun _ _ => rfl, ?_⟩; go_big_quiet_on))
          refine wpq (.slice (some ⟨b, o, none⟩) n oc) rfl (quiet_cell 22 _ rfl w.heap.size 1 rfl (.slice (some ⟨b, o, none⟩) n oc) k1.out Tryz.isAgg22) rfl (fun K hK => ?_); go_simp; refine hK _ ?_; clear hK K
          iterate 3 (go_big_quiet_want; go_big_quiet_op; first | go_big_quiet_on | (refine ⟨_, fun _ _ => rfl, ?_⟩; go_big_quiet_on))
          refine wpq (.slice pa pn pc) rfl (quiet_cell 26 _ rfl b (o + k * 11 + 1) rfl (.slice pa pn pc) cp.out Tryz.isAgg26) rfl (fun K hK => ?_); go_simp; refine hK _ ?_; clear hK K
          refine wpq (.bool false) rfl (quiet_call2 rfl Tryz.func39 (by kernel_rfl) rfl (.slice ia n ic) (.slice pa pn pc) (.bool false) rfl rfl rfl (fun w9 h => (hA.out w9 h).mono fun e w' ⟨he, hd⟩ => ⟨he, h.trans (hd.mono h.size)⟩)) rfl (fun K hK => ?_); go_simp; refine hK _ ?_; clear hK K
          (go_big_quiet_want; go_big_quiet_op; first | go_big_quiet_on | (refine ⟨_, fun _ _ => rfl, ?_⟩; go_big_quiet_on))
          refine wpQuiet_nil ?_
          intro w2 h2
          have hB2 := Lib.hid (hb'.out.trans (h2.mono hb'.out.size))
          clear h2
          go_wp2
          have h40 := Lib.hid (link_40 he'.out hRB'.out (hno.out trivial))
          go_ret
          exact ⟨by rw [h40.out]; try rfl, hS.out.trans (hB2.out.mono hS.out.size)⟩
      · obtain rfl : k = n := by omega
        have hcl := Lib.hid (show closB F k L = true from clos_iff.2 fun i hi => hall'.out i (by have := hn'.out; omega))
        have hbS := Lib.hid (hS.out.trans (hb'.out.mono hS.out.size))
        have hod := Lib.hid (fun (wz : World) (h : Below W.heap.size W wz) => rOrder_any F k L (.slice ia k ic) (.slice oa k oc) wz (hI'.out.mono (hS.out.trans (h.mono hS.out.size))) (hO'.out.mono (hS.out.trans (h.mono hS.out.size))) hn'.out hm hfit'.out)
        go_upto_region 8 with fail
        · refine wp_region_fx 6 shpA (by kernel_rfl) (by kernel_rfl) (shpΦ F k L w.heap.size (gC (.slice ia k ic) (.slice oa k oc)) (.slice oa k oc)) (fun i w w' => Below w.heap.size w w') (fun wz => Below W.heap.size W wz) (fun _ _ => True) (hb'.out.drew) (fun _ _ => trivial) (fun i w w' hi h hg => h.trans (hg.mono h.size)) (fun i j v w w' hi hj ha hinv h hg => ?hkeep) (fun _ _ _ _ _ _ _ _ _ _ => trivial) ?hstep ?hdone
          case hkeep =>
            match j, hj with
            | 0, _ => exact h
            | 1, _ => exact h
            | 2, _ => exact h
            | 3, _ => exact h
            | 4, _ => exact h
            | 5, _ => exact h
            | j' + 6, hj' => exact absurd hj' (by omega)
          case hstep =>
            intro i op vs wz hi hop hinv hpre hd
            match i, hi with
          | 0, _ =>
            simp only [List.getElem?_toArray, List.getElem?_cons_zero, List.getElem?_cons_succ, Option.some.injEq] at hop
            subst hop
            generalize hfr : fxF _ vs fxT _ 0 = fr
            have e : fr.eval (.tmp 1) = .pointer (some ⟨w.heap.size, 0, none⟩) := by rw [← hfr]; exact fx_old 0 (by kernel_rfl)
            clear hfr
            refine fx_val (v := .agg (gC (.slice ia k ic) (.slice oa k oc))) (w' := wz) rfl ?_ ⟨rfl, Below.refl _ _⟩
            unfold execOp
            generalize fr.eval = ev at e ⊢
            simp only [e, Instr.loadAt, Instr.sureAddr, Sem.run_bind, Sem.run_pure, Result.andThen_ok, run_loadVar_row wz w.heap.size 41 41 (gC (.slice ia k ic) (.slice oa k oc)) (0, 0) _ (hrw.out wz hinv) Tryz.underlying41 rfl info_g]
          | 1, _ =>
            simp only [List.getElem?_toArray, List.getElem?_cons_zero, List.getElem?_cons_succ, Option.some.injEq] at hop
            subst hop
            have h0 : vs 0 = .agg (gC (.slice ia k ic) (.slice oa k oc)) := hd 0 (by decide)
            generalize hfr : fxF _ vs fxT _ 1 = fr
            have e : fr.eval (.tmp 25) = .agg (gC (.slice ia k ic) (.slice oa k oc)) := by rw [← hfr]; exact (fx_new (by simp) 1 (by kernel_rfl)).trans h0
            clear hfr
            refine fx_call #[.agg (gC (.slice ia k ic) (.slice oa k oc))] rfl rfl Tryz.func40 (by kernel_rfl) rfl (by simp [e]) rfl ((hod.out wz hinv).mono ?_)
            rintro e9 w9 ⟨v, l, rfl, z1, z2, z3, z4, z5⟩
            obtain ⟨va, vc, rfl⟩ := z1.slice
            exact ⟨_, rfl, ⟨va, l.length, vc, rfl, z3, z4⟩, z5⟩
          | 2, _ =>
            simp only [List.getElem?_toArray, List.getElem?_cons_zero, List.getElem?_cons_succ, Option.some.injEq] at hop
            subst hop
            obtain ⟨a1, q, c1, h1, h2, h3⟩ : ∃ a q c, vs 1 = .slice a q c ∧ (q = k ↔ AllTk F k L) ∧ q ≤ k := hd 1 (by decide)
            generalize hfr : fxF _ vs fxT _ 2 = fr
            have e : fr.eval (.tmp 26) = .slice a1 q c1 := by rw [← hfr]; exact (fx_new (by simp) 2 (by kernel_rfl)).trans h1
            clear hfr
            refine fx_val (v := .int .i64 (q : Int)) (w' := wz) rfl ?_ ⟨⟨q, rfl, h2, h3⟩, Below.refl _ _⟩
            unfold execOp
            generalize fr.eval = ev at e ⊢
            simp [go_sem, e]
          | 3, _ =>
            simp only [List.getElem?_toArray, List.getElem?_cons_zero, List.getElem?_cons_succ, Option.some.injEq] at hop
            subst hop
            generalize hfr : fxF _ vs fxT _ 3 = fr
            have e : fr.eval (.tmp 1) = .pointer (some ⟨w.heap.size, 0, none⟩) := by rw [← hfr]; exact fx_old 3 (by kernel_rfl)
            clear hfr
            refine fx_val (v := .pointer (some ⟨w.heap.size, 1, none⟩)) (w' := wz) rfl ?_ ⟨rfl, Below.refl _ _⟩
            unfold execOp
            generalize fr.eval = ev at e ⊢
            simp [go_sem, e]
          | 4, _ =>
            simp only [List.getElem?_toArray, List.getElem?_cons_zero, List.getElem?_cons_succ, Option.some.injEq] at hop
            subst hop
            have h3 : vs 3 = .pointer (some ⟨w.heap.size, 1, none⟩) := hd 3 (by decide)
            generalize hfr : fxF _ vs fxT _ 4 = fr
            have e : fr.eval (.tmp 28) = .pointer (some ⟨w.heap.size, 1, none⟩) := by rw [← hfr]; exact (fx_new (by simp) 4 (by kernel_rfl)).trans h3
            clear hfr
            have cI := hc1.out wz hinv
            refine fx_val (v := .slice oa k oc) (w' := wz) rfl ?_ ⟨rfl, Below.refl _ _⟩
            unfold execOp
            generalize fr.eval = ev at e ⊢
            simp [go_sem, e, cI]
          | 5, _ =>
            simp only [List.getElem?_toArray, List.getElem?_cons_zero, List.getElem?_cons_succ, Option.some.injEq] at hop
            subst hop
            have h4 : vs 4 = .slice oa k oc := hd 4 (by decide)
            generalize hfr : fxF _ vs fxT _ 5 = fr
            have e : fr.eval (.tmp 29) = .slice oa k oc := by rw [← hfr]; exact (fx_new (by simp) 5 (by kernel_rfl)).trans h4
            clear hfr
            refine fx_val (v := .int .i64 (k : Int)) (w' := wz) rfl ?_ ⟨rfl, Below.refl _ _⟩
            unfold execOp
            generalize fr.eval = ev at e ⊢
            simp [go_sem, e]
          | i' + 6, hi' => exact absurd hi' (by omega)
          case hdone =>
            intro vs w5 hinv hf
            obtain ⟨q, h2, h2a, h2b⟩ : ∃ q : Nat, vs 2 = .int .i64 (q : Int) ∧ (q = k ↔ AllTk F k L) ∧ q ≤ k := hf 2 (by decide)
            have h5 : vs 5 = .int .i64 (k : Int) := hf 5 (by decide)
            simp only [fxF, fxT, if_true, List.drop_succ_cons, List.drop_zero, List.getElem?_toArray, List.getElem?_cons_zero, List.getElem?_cons_succ, Option.bind_some]
            rw [h2, h5]
            have h2a' := Lib.hid h2a
            have hv5 := Lib.hid hinv
            clear hf h2 h5 h2a hinv
            generalize vs 0 = z0 at *
            generalize vs 1 = z1 at *
            generalize vs 3 = z3 at *
            generalize vs 4 = z4 at *
            by_cases hq : q < k
            · have hqI : (q : Int) < (k : Int) := by omega
              have h36 := Lib.hid (link_36 he'.out hRB'.out hcl.out (fun h => by have := h2a'.out.2 h; omega))
              go_wp2
              go_ret
              exact ⟨by rw [h36.out]; try rfl, hS.out.trans (hv5.out.mono hS.out.size)⟩
            · have hqI : ¬ (q : Int) < (k : Int) := by omega
              have h00 := Lib.hid (link_0 he'.out hRB'.out hcl.out (h2a'.out.1 (by omega)))
              go_wp2
              go_ret
              exact ⟨by rw [h00.out]; try rfl, hS.out.trans (hv5.out.mono hS.out.size)⟩
end Go.Proofs.YtlbgffhipondiaaGreatDoor.wir.val

/- Texts that the row stands on, part 9. -/
import Derived.Test.YtfaojjleapenaabGreatDoorRTopSq08
namespace Go.Proofs.YtfaojjleapenaabGreatDoor.wir.frm
open Go.RowKit Go.YtfaojjleapenaabGreatDoor
set_option linter.unusedVariables false
theorem results_row_tmp2 {P : Program} {fn : Func} {p u v : Tmp} {ty : TypeId} (h : fn.results = #[.cell p ty, .tmp u, .tmp v]) (tmps : Array Value) (w : World) (g : Nat) (t : TypeId) (cs : Array Value) (fr : Nat × Nat) (d : TypeDesc)
    (hp : tmps.getD p undef = .pointer (some ⟨g, 0, none⟩)) (hg : w.heap[g]? = some (.cells cs t fr))
    (hu : P.underlying ty = some d) (hd : (match d with | .struct _ | .array _ _ => true | _ => false) = true) (hi : (P.info? ty).map (·.size) = some cs.size) :
    (results fn tmps).run P w = .ok (.tuple #[.agg cs, tmps.getD u undef, tmps.getD v undef]) w := by
  have hc : (results fn tmps).run P w =
      ((asAddr (tmps.getD p undef)).run P w).andThen fun a w₁ => ((loadVar ty a).run P w₁).andThen fun x w₂ => .ok (.tuple #[x, tmps.getD u undef, tmps.getD v undef]) w₂ := by
    simp only [results, h]
    simp [Sem.run_bind, Result.andThen]
  rw [hc, hp]
  have hl := run_loadVar_row (P := P) w g t ty cs fr d hg hu hd hi
  simp [asAddr, hl]
/-- The frame of a kind that has nothing. -/
def kF (k : Int) : Fr := ⟨k, 0, 0, [], []⟩
theorem fr_one (f : Fr) (a a' : Option Addr) (n n' c c' : Nat) : (f.c (.slice a n c) (.slice a' n' c')).all (·.oneCell') = true := by simp [Fr.c, Value.oneCell']
theorem setN {w : World} {g : Nat} {k : Int} {iv ov : Value} (h : w.heap[g]? = some (.cells ((kF k).c iv ov) 105 (0, 0))) (N : Nat) :
    w.setCell ⟨g, 1, none⟩ (.int .u64 (N : Int)) = w.setRow g ((⟨k, N, 0, [], []⟩ : Fr).c iv ov) := setCell_eq h 1 (.int .u64 (N : Int))
theorem setI {w : World} {g : Nat} {k : Int} {iv ov : Value} (h : w.heap[g]? = some (.cells ((kF k).c iv ov) 105 (0, 0))) (x : Value) (n : Nat) (F : List Int) :
    w.setCell ⟨g, 2, none⟩ x = w.setRow g ((⟨k, 0, n, F, []⟩ : Fr).c x ov) := setCell_eq h 2 x
theorem setO {w : World} {g : Nat} {k : Int} {iv ov : Value} (h : w.heap[g]? = some (.cells ((kF k).c iv ov) 105 (0, 0))) (x : Value) (L : List (List Int)) :
    w.setCell ⟨g, 3, none⟩ x = w.setRow g ((⟨k, 0, 0, [], L⟩ : Fr).c iv x) := setCell_eq h 3 x
/-- The world has these rows: two frames, behind what was there. -/
def readPost (w : World) (k : Int) (b : List Int) (e : Ending) (w' : World) : Prop :=
  Below w.heap.size w w' ∧ (readR k b = none → e = .returned (.tuple #[.agg ((kF k).c (.slice none 0 0) (.slice none 0 0)), .int .i64 0, .int .i64 12])) ∧
    ∀ f u, readR k b = some (f, u) → ∃ iv ov, e = .returned (.tuple #[.agg (f.c iv ov), .int .i64 ((u : Nat) : Int), .int .i64 0]) ∧ HeldI w.heap.size w' iv f.n f.F ∧ HeldS w.heap.size w' ov f.L
theorem readR_num {k : Int} (h : numK k = true) (b : List Int) : readR k b = (match readF b with
    | none => none
    | some p => some (⟨k, p.1, 0, [], []⟩, p.2)) := if_pos h
theorem readR_ids {k : Int} (h : numK k = false) (h2 : idsK k = true) (b : List Int) : readR k b = (match readC b 40 32 with
    | none => none
    | some p => if riseF ((b.drop p.2).take (p.1 * 32)) p.1 = true then some (⟨k, 0, p.1, (b.drop p.2).take (p.1 * 32), []⟩, p.2 + p.1 * 32) else none) := by
  unfold readR
  rw [if_neg (by rw [h]; decide), if_pos h2]
  rfl
theorem readR_ops {k : Int} (h : numK k = false) (h2 : idsK k = false) (h5 : k = 5) (b : List Int) : readR k b = (match readS b with
    | none => none
    | some q => some (⟨k, 0, 0, [], q.1⟩, q.2)) := by
  unfold readR
  rw [if_neg (by rw [h]; decide), if_neg (by rw [h2]; decide), if_pos h5]
  rfl
theorem readR_else {k : Int} (h : numK k = false) (h2 : idsK k = false) (h5 : ¬ k = 5) (b : List Int) : readR k b = none := by
  unfold readR
  rw [if_neg (by rw [h]; decide), if_neg (by rw [h2]; decide), if_neg h5]
theorem held_setRow {B g : Nat} {w : World} {v : Value} {n : Nat} {F : List Int} (h : HeldI B w v n F) (hg : g < B) (cs : Array Value) : HeldI B (w.setRow g cs) v n F := fun wx h1 h2 =>
  h wx (fun k k1 k2 => (h1 k k1 (by simpa [World.setRow] using k2)).trans (setRow_other w g k cs (by omega))) (by simpa [World.setRow] using h2)
theorem heldS_setRow {B g : Nat} {w : World} {v : Value} {L : List (List Int)} (h : HeldS B w v L) (hg : g < B) (cs : Array Value) : HeldS B (w.setRow g cs) v L := fun wx h1 h2 =>
  h wx (fun k k1 k2 => (h1 k k1 (by simpa [World.setRow] using k2)).trans (setRow_other w g k cs (by omega))) (by simpa [World.setRow] using h2)
set_option maxHeartbeats 4000000 in
set_option maxRecDepth 100000 in
theorem read_any (k : Int) (b : List Int) (bv : Value) (w : World) (hr : RdB w bv b) (hb : Bytes b) (hl : b.length ≤ 100000) :
    Calls Tryz.prog 90 #[.int .u8 k, bv] w (readPost w k b) := by
  obtain ⟨W, hW⟩ : ∃ W, W = (w.alloc (.cells ((kF 0).c (.slice none 0 0) (.slice none 0 0)) 105)).alloc (.cells ((kF k).c (.slice none 0 0) (.slice none 0 0)) 105) := ⟨_, rfl⟩
  have hr0 : W.heap[w.heap.size]? = some (.cells ((kF 0).c (.slice none 0 0) (.slice none 0 0)) 105 (0, 0)) := by rw [hW]; exact rowB (heap_alloc_new w _) (below_a _ _) (by simp)
  have hr1 : W.heap[w.heap.size + 1]? = some (.cells ((kF k).c (.slice none 0 0) (.slice none 0 0)) 105 (0, 0)) := by rw [hW]; exact hn2 w _ _
  have hb0 : Below w.heap.size w W := by rw [hW]; exact ((Below.refl w.heap.size w).alloc (Nat.le_refl _) _).alloc (by simp) _
  have hsz : W.heap.size = w.heap.size + 2 := by rw [hW]; simp
  obtain ⟨ba, bc, rfl⟩ := hr.slice
  have hB := Lib.hid hb0
  have hs := Lib.hid hr0
  have hf := Lib.hid hr1
  have hrb := Lib.hid (hr.mono hb0)
  have hszh := Lib.hid hsz
  have hK := Lib.hid (fun wz => hasNumber_any k wz)
  have hD := Lib.hid (fun wz => hasIDs_any k wz)
  have hbb := Lib.hid hb
  have hlb := Lib.hid hl
  have p1 := Lib.hid (fun h => readR_num (k := k) h b)
  have p2 := Lib.hid (fun h h2 => readR_ids (k := k) h h2 b)
  have p3 := Lib.hid (fun h h2 h5 => readR_ops (k := k) h h2 h5 b)
  have p4 := Lib.hid (fun h h2 h5 => readR_else (k := k) h h2 h5 b)
  obtain ⟨NB, hNB⟩ : ∃ NB, b.length = NB := ⟨_, rfl⟩
  rw [hNB] at hrb ⊢
  clear hr0 hr1 hb0 hsz hr hb hl hNB
  cases hk : numK k
  · rw [hk] at hK
    replace p2 := Lib.hid (p2.out hk)
    replace p3 := Lib.hid (p3.out hk)
    replace p4 := Lib.hid (p4.out hk)
    cases hd : idsK k
    · rw [hd] at hD
      replace p3 := Lib.hid (p3.out hd)
      replace p4 := Lib.hid (p4.out hd)
      clear p1 p2 hk hd
      by_cases h5 : k = 5
      · subst h5
        replace p3 := p3.out rfl
        have hS := Lib.hid (readStrings_any b _ W hrb.out hbb.out hlb.out)
        cases hre : readS b with
        | none =>
          rw [hre] at p3
          have hn := Lib.hid p3
          have hS2 := Lib.hid (hS.out.mono fun e w' h => (show e = .returned (.tuple #[.slice none 0 0, .int .i64 0, .int .i64 12]) ∧ Below W.heap.size W w' from ⟨h.2.1 hre, h.1⟩))
          clear hS p3 p4 hre
          go_enter Tryz.func90, Tryz.ntmps90
          go_upto_region 2 with fail
          change Code.wp _ _ _ _ ((w.alloc (.cells ((kF 0).c (.slice none 0 0) (.slice none 0 0)) 105)).alloc (.cells ((kF 5).c (.slice none 0 0) (.slice none 0 0)) 105))
          rw [← hW]
          clear hW
          go_upto_region 9 with (first | (go_at_call 113; (with_reducible refine (hK.out _).mono ?_); rintro e w2 ⟨rfl, rfl⟩) | (go_at_call 114; (with_reducible refine (hD.out _).mono ?_); rintro e w2 ⟨rfl, rfl⟩) | (go_at_call 115; (with_reducible refine (hS2.out).mono ?_); rintro e w3 ⟨rfl, q2⟩; have z3 := q2.size; replace hs := Lib.hid (rowB hs.out q2 (Array.getElem?_eq_some_iff.1 hs.out).1); replace hf := Lib.hid (rowB hf.out q2 (Array.getElem?_eq_some_iff.1 hf.out).1); replace hB := Lib.hid (hB.out.trans (q2.mono hB.out.size)); clear q2; have f1 := frozen_of_row _ (w.heap.size + 1) 1 _ _ hf.out; have f2 := frozen_of_row _ (w.heap.size + 1) 2 _ _ hf.out; have f3 := frozen_of_row _ (w.heap.size + 1) 3 _ _ hf.out; obtain ⟨_, d1, d2, d3⟩ := cellsF hf.out))
          rw [setO hf.out (.slice none 0 0) []]
          replace hs := Lib.hid ((setRow_other _ (w.heap.size + 1) w.heap.size ((⟨5, 0, 0, [], []⟩ : Fr).c (.slice none 0 0) (.slice none 0 0)) (by omega)).trans hs.out)
          replace hf := Lib.hid (setRow_heap _ (w.heap.size + 1) _ ((⟨5, 0, 0, [], []⟩ : Fr).c (.slice none 0 0) (.slice none 0 0)) _ _ hf.out)
          replace hB := Lib.hid (below_setRow' hB.out (Nat.le_succ w.heap.size) ((⟨5, 0, 0, [], []⟩ : Fr).c (.slice none 0 0) (.slice none 0 0)))
          clear f1 f2 f3 d1 d2 d3
          go_wp2_with (first
            | (refine wpList_load_row_g rfl 105 _ rfl (w.heap.size + 1) rfl 105 ((⟨5, 0, 0, [], []⟩ : Fr).c (.slice none 0 0) (.slice none 0 0)) (0, 0) _ hf.out Tryz.underlying105 rfl info_frame ?_)
            | (refine wpList_store_row rfl 105 _ _ rfl w.heap.size ((⟨5, 0, 0, [], []⟩ : Fr).c (.slice none 0 0) (.slice none 0 0)) rfl rfl 105 _ hs.out info_frame rfl (fr_one _ _ _ _ _ _ _) ?_))
          refine bodyPost_ret (results_row_tmp2 rfl _ _ w.heap.size 105 _ _ _ rfl (setRow_heap _ _ _ _ _ _ hs.out) Tryz.underlying105 rfl info_frame) rfl ?_
          exact ⟨below_setRow' hB.out (Nat.le_refl _) _, fun _ => rfl, fun f u h => by rw [hn.out] at h; cases h⟩
        | some q =>
          obtain ⟨L, u⟩ := q
          rw [hre] at p3
          have hn := Lib.hid p3
          have hS2 := Lib.hid (hS.out.mono fun e w' h => (show ∃ v, e = .returned (.tuple #[v, .int .i64 ((u : Nat) : Int), .int .i64 0]) ∧ HeldS W.heap.size w' v L ∧ Below W.heap.size W w' from by obtain ⟨v, h1, h2⟩ := h.2.2 L u hre; exact ⟨v, h1, h2.held, h.1⟩))
          clear hS p3 p4 hre
          obtain ⟨M, hM⟩ : ∃ M, L.length = M := ⟨_, rfl⟩
          have hMh := Lib.hid hM
          clear hM
          go_enter Tryz.func90, Tryz.ntmps90
          go_upto_region 2 with fail
          change Code.wp _ _ _ _ ((w.alloc (.cells ((kF 0).c (.slice none 0 0) (.slice none 0 0)) 105)).alloc (.cells ((kF 5).c (.slice none 0 0) (.slice none 0 0)) 105))
          rw [← hW]
          clear hW
          go_upto_region 9 with (first | (go_at_call 113; (with_reducible refine (hK.out _).mono ?_); rintro e w2 ⟨rfl, rfl⟩) | (go_at_call 114; (with_reducible refine (hD.out _).mono ?_); rintro e w2 ⟨rfl, rfl⟩) | (go_at_call 115; (with_reducible refine (hS2.out).mono ?_); rintro e w3 ⟨v, rfl, q1, q2⟩; have hH := Lib.hid q1; obtain ⟨va, vc, hv⟩ := (heldS_rd q1).slice; subst hv; have z3 := q2.size; replace hs := Lib.hid (rowB hs.out q2 (Array.getElem?_eq_some_iff.1 hs.out).1); replace hf := Lib.hid (rowB hf.out q2 (Array.getElem?_eq_some_iff.1 hf.out).1); replace hB := Lib.hid (hB.out.trans (q2.mono hB.out.size)); clear q2; have f1 := frozen_of_row _ (w.heap.size + 1) 1 _ _ hf.out; have f2 := frozen_of_row _ (w.heap.size + 1) 2 _ _ hf.out; have f3 := frozen_of_row _ (w.heap.size + 1) 3 _ _ hf.out; obtain ⟨_, d1, d2, d3⟩ := cellsF hf.out; clear q1))
          rw [setO hf.out (.slice va L.length vc) L]
          replace hs := Lib.hid ((setRow_other _ (w.heap.size + 1) w.heap.size ((⟨5, 0, 0, [], L⟩ : Fr).c (.slice none 0 0) (.slice va L.length vc)) (by omega)).trans hs.out)
          replace hf := Lib.hid (setRow_heap _ (w.heap.size + 1) _ ((⟨5, 0, 0, [], L⟩ : Fr).c (.slice none 0 0) (.slice va L.length vc)) _ _ hf.out)
          replace hB := Lib.hid (below_setRow' hB.out (Nat.le_succ w.heap.size) ((⟨5, 0, 0, [], L⟩ : Fr).c (.slice none 0 0) (.slice va L.length vc)))
          clear f1 f2 f3 d1 d2 d3
          go_wp2_with (first
            | (refine wpList_load_row_g rfl 105 _ rfl (w.heap.size + 1) rfl 105 ((⟨5, 0, 0, [], L⟩ : Fr).c (.slice none 0 0) (.slice va L.length vc)) (0, 0) _ hf.out Tryz.underlying105 rfl info_frame ?_)
            | (refine wpList_store_row rfl 105 _ _ rfl w.heap.size ((⟨5, 0, 0, [], L⟩ : Fr).c (.slice none 0 0) (.slice va L.length vc)) rfl rfl 105 _ hs.out info_frame rfl (fr_one _ _ _ _ _ _ _) ?_))
          refine bodyPost_ret (results_row_tmp2 rfl _ _ w.heap.size 105 _ _ _ rfl (setRow_heap _ _ _ _ _ _ hs.out) Tryz.underlying105 rfl info_frame) rfl ?_
          exact ⟨below_setRow' hB.out (Nat.le_refl _) _, (fun h => by rw [hn.out] at h; cases h), fun f u' h => by
            rw [hn.out] at h
            obtain ⟨e1, e2⟩ := Prod.mk.inj (Option.some.inj h)
            subst e1 e2
            exact ⟨_, _, rfl, heldI_nil _ _, heldS_lower (heldS_setRow (heldS_setRow hH.out (by have := hszh.out; omega) _) (by have := hszh.out; omega) _) (by have := hszh.out; omega)⟩⟩
      · have hn := Lib.hid (p4.out h5)
        clear p3 p4
        go_enter Tryz.func90, Tryz.ntmps90
        go_upto_region 2 with fail
        change Code.wp _ _ _ _ ((w.alloc (.cells ((kF 0).c (.slice none 0 0) (.slice none 0 0)) 105)).alloc (.cells ((kF k).c (.slice none 0 0) (.slice none 0 0)) 105))
        rw [← hW]
        clear hW
        go_upto_region 9 with (first | (go_at_call 113; (with_reducible refine (hK.out _).mono ?_); rintro e w2 ⟨rfl, rfl⟩) | (go_at_call 114; (with_reducible refine (hD.out _).mono ?_); rintro e w2 ⟨rfl, rfl⟩))
        go_wp2_with (first
          | (refine wpList_load_row_g rfl 105 _ rfl (w.heap.size + 1) rfl 105 ((kF k).c (.slice none 0 0) (.slice none 0 0)) (0, 0) _ hf.out Tryz.underlying105 rfl info_frame ?_)
          | (refine wpList_store_row rfl 105 _ _ rfl w.heap.size ((kF k).c (.slice none 0 0) (.slice none 0 0)) rfl rfl 105 _ hs.out info_frame rfl (fr_one _ _ _ _ _ _ _) ?_))
        refine bodyPost_ret (results_row_tmp2 rfl _ _ w.heap.size 105 _ _ _ rfl (setRow_heap _ _ _ _ _ _ hs.out) Tryz.underlying105 rfl info_frame) rfl ?_
        exact ⟨below_setRow' hB.out (Nat.le_refl _) _, fun _ => rfl, fun f u h => by rw [hn.out] at h; cases h⟩
    · rw [hd] at hD
      replace p2 := p2.out hd
      clear p1 p3 p4 hk hd
      cases hre : readC b 40 32 with
      | none =>
        rw [hre] at p2
        have hn := Lib.hid p2
        have hS2 := Lib.hid (readIDs_no b _ 40 (by decide) (by decide) W hrb.out hbb.out (by have := hlb.out; omega) hre)
        clear p2 hre
        go_enter Tryz.func90, Tryz.ntmps90
        go_upto_region 2 with fail
        change Code.wp _ _ _ _ ((w.alloc (.cells ((kF 0).c (.slice none 0 0) (.slice none 0 0)) 105)).alloc (.cells ((kF k).c (.slice none 0 0) (.slice none 0 0)) 105))
        rw [← hW]
        clear hW
        go_upto_region 9 with (first | (go_at_call 113; (with_reducible refine (hK.out _).mono ?_); rintro e w2 ⟨rfl, rfl⟩) | (go_at_call 114; (with_reducible refine (hD.out _).mono ?_); rintro e w2 ⟨rfl, rfl⟩) | (go_at_call 47; (with_reducible refine (hS2.out).mono ?_); rintro e w3 ⟨rfl, rfl⟩; have f1 := frozen_of_row _ (w.heap.size + 1) 1 _ _ hf.out; have f2 := frozen_of_row _ (w.heap.size + 1) 2 _ _ hf.out; have f3 := frozen_of_row _ (w.heap.size + 1) 3 _ _ hf.out; obtain ⟨_, d1, d2, d3⟩ := cellsF hf.out))
        rw [setI hf.out (.slice none 0 0) 0 []]
        replace hs := Lib.hid ((setRow_other _ (w.heap.size + 1) w.heap.size ((⟨k, 0, 0, [], []⟩ : Fr).c (.slice none 0 0) (.slice none 0 0)) (by omega)).trans hs.out)
        replace hf := Lib.hid (setRow_heap _ (w.heap.size + 1) _ ((⟨k, 0, 0, [], []⟩ : Fr).c (.slice none 0 0) (.slice none 0 0)) _ _ hf.out)
        replace hB := Lib.hid (below_setRow' hB.out (Nat.le_succ w.heap.size) ((⟨k, 0, 0, [], []⟩ : Fr).c (.slice none 0 0) (.slice none 0 0)))
        clear f1 f2 f3 d1 d2 d3
        go_wp2_with (first
          | (refine wpList_load_row_g rfl 105 _ rfl (w.heap.size + 1) rfl 105 ((⟨k, 0, 0, [], []⟩ : Fr).c (.slice none 0 0) (.slice none 0 0)) (0, 0) _ hf.out Tryz.underlying105 rfl info_frame ?_)
          | (refine wpList_store_row rfl 105 _ _ rfl w.heap.size ((⟨k, 0, 0, [], []⟩ : Fr).c (.slice none 0 0) (.slice none 0 0)) rfl rfl 105 _ hs.out info_frame rfl (fr_one _ _ _ _ _ _ _) ?_))
        refine bodyPost_ret (results_row_tmp2 rfl _ _ w.heap.size 105 _ _ _ rfl (setRow_heap _ _ _ _ _ _ hs.out) Tryz.underlying105 rfl info_frame) rfl ?_
        exact ⟨below_setRow' hB.out (Nat.le_refl _) _, fun _ => rfl, fun f u h => by rw [hn.out] at h; cases h⟩
      | some q =>
        obtain ⟨n, x⟩ := q
        rw [hre] at p2
        simp only at p2
        have hS := Lib.hid (readIDs_ok b _ 40 (by decide) (by decide) W hrb.out hbb.out (by have := hlb.out; omega) n x hre)
        obtain ⟨c1, c2, c3⟩ := readC_some hre
        obtain ⟨a1, a2, a3, a4⟩ := readF_some hbb.out c1
        have hlF := Lib.hid (show ((b.drop x).take (n * 32)).length = 32 * n by rw [List.length_take, List.length_drop]; omega)
        have hn40 : n ≤ 1000000 := by omega
        clear hre c1 c2 c3 a1 a2 a3 a4
        generalize (b.drop x).take (n * 32) = F at *
        generalize x + n * 32 = u at *
        cases hri : riseF F n
        · rw [hri, if_neg (by decide)] at p2
          have hn := Lib.hid p2
          have hS2 := Lib.hid (hS.out.mono fun e w' h => (show e = .returned (.tuple #[.slice none 0 0, .int .i64 0, .int .i64 12]) ∧ Below W.heap.size W w' from ⟨by have h2 := h.2; rw [hri, if_neg (by decide)] at h2; exact h2, h.1⟩))
          clear hS p2 hri
          go_enter Tryz.func90, Tryz.ntmps90
          go_upto_region 2 with fail
          change Code.wp _ _ _ _ ((w.alloc (.cells ((kF 0).c (.slice none 0 0) (.slice none 0 0)) 105)).alloc (.cells ((kF k).c (.slice none 0 0) (.slice none 0 0)) 105))
          rw [← hW]
          clear hW
          go_upto_region 9 with (first | (go_at_call 113; (with_reducible refine (hK.out _).mono ?_); rintro e w2 ⟨rfl, rfl⟩) | (go_at_call 114; (with_reducible refine (hD.out _).mono ?_); rintro e w2 ⟨rfl, rfl⟩) | (go_at_call 47; (with_reducible refine (hS2.out).mono ?_); rintro e w3 ⟨rfl, q2⟩; have z3 := q2.size; replace hs := Lib.hid (rowB hs.out q2 (Array.getElem?_eq_some_iff.1 hs.out).1); replace hf := Lib.hid (rowB hf.out q2 (Array.getElem?_eq_some_iff.1 hf.out).1); replace hB := Lib.hid (hB.out.trans (q2.mono hB.out.size)); clear q2; have f1 := frozen_of_row _ (w.heap.size + 1) 1 _ _ hf.out; have f2 := frozen_of_row _ (w.heap.size + 1) 2 _ _ hf.out; have f3 := frozen_of_row _ (w.heap.size + 1) 3 _ _ hf.out; obtain ⟨_, d1, d2, d3⟩ := cellsF hf.out))
          rw [setI hf.out (.slice none 0 0) 0 []]
          replace hs := Lib.hid ((setRow_other _ (w.heap.size + 1) w.heap.size ((⟨k, 0, 0, [], []⟩ : Fr).c (.slice none 0 0) (.slice none 0 0)) (by omega)).trans hs.out)
          replace hf := Lib.hid (setRow_heap _ (w.heap.size + 1) _ ((⟨k, 0, 0, [], []⟩ : Fr).c (.slice none 0 0) (.slice none 0 0)) _ _ hf.out)
          replace hB := Lib.hid (below_setRow' hB.out (Nat.le_succ w.heap.size) ((⟨k, 0, 0, [], []⟩ : Fr).c (.slice none 0 0) (.slice none 0 0)))
          clear f1 f2 f3 d1 d2 d3
          go_wp2_with (first
            | (refine wpList_load_row_g rfl 105 _ rfl (w.heap.size + 1) rfl 105 ((⟨k, 0, 0, [], []⟩ : Fr).c (.slice none 0 0) (.slice none 0 0)) (0, 0) _ hf.out Tryz.underlying105 rfl info_frame ?_)
            | (refine wpList_store_row rfl 105 _ _ rfl w.heap.size ((⟨k, 0, 0, [], []⟩ : Fr).c (.slice none 0 0) (.slice none 0 0)) rfl rfl 105 _ hs.out info_frame rfl (fr_one _ _ _ _ _ _ _) ?_))
          refine bodyPost_ret (results_row_tmp2 rfl _ _ w.heap.size 105 _ _ _ rfl (setRow_heap _ _ _ _ _ _ hs.out) Tryz.underlying105 rfl info_frame) rfl ?_
          exact ⟨below_setRow' hB.out (Nat.le_refl _) _, fun _ => rfl, fun f u h => by rw [hn.out] at h; cases h⟩
        · rw [hri, if_pos rfl] at p2
          have hn := Lib.hid p2
          have hS2 := Lib.hid (hS.out.mono fun e w' h => (show ∃ va vc, e = .returned (.tuple #[.slice va n vc, .int .i64 ((u : Nat) : Int), .int .i64 0]) ∧ HeldI W.heap.size w' (.slice va n vc) n F ∧ Below W.heap.size W w' from by have h2 := h.2; rw [hri, if_pos rfl] at h2; exact ⟨_, _, h2.1, heldI_row h2.2 n hlF.out hn40 (Nat.le_refl _), h.1⟩))
          clear hS p2 hri
          go_enter Tryz.func90, Tryz.ntmps90
          go_upto_region 2 with fail
          change Code.wp _ _ _ _ ((w.alloc (.cells ((kF 0).c (.slice none 0 0) (.slice none 0 0)) 105)).alloc (.cells ((kF k).c (.slice none 0 0) (.slice none 0 0)) 105))
          rw [← hW]
          clear hW
          go_upto_region 9 with (first | (go_at_call 113; (with_reducible refine (hK.out _).mono ?_); rintro e w2 ⟨rfl, rfl⟩) | (go_at_call 114; (with_reducible refine (hD.out _).mono ?_); rintro e w2 ⟨rfl, rfl⟩) | (go_at_call 47; (with_reducible refine (hS2.out).mono ?_); rintro e w3 ⟨va, vc, rfl, q1, q2⟩; have hH := Lib.hid q1; have z3 := q2.size; replace hs := Lib.hid (rowB hs.out q2 (Array.getElem?_eq_some_iff.1 hs.out).1); replace hf := Lib.hid (rowB hf.out q2 (Array.getElem?_eq_some_iff.1 hf.out).1); replace hB := Lib.hid (hB.out.trans (q2.mono hB.out.size)); clear q2; have f1 := frozen_of_row _ (w.heap.size + 1) 1 _ _ hf.out; have f2 := frozen_of_row _ (w.heap.size + 1) 2 _ _ hf.out; have f3 := frozen_of_row _ (w.heap.size + 1) 3 _ _ hf.out; obtain ⟨_, d1, d2, d3⟩ := cellsF hf.out; clear q1))
          rw [setI hf.out (.slice va n vc) n F]
          replace hs := Lib.hid ((setRow_other _ (w.heap.size + 1) w.heap.size ((⟨k, 0, n, F, []⟩ : Fr).c (.slice va n vc) (.slice none 0 0)) (by omega)).trans hs.out)
          replace hf := Lib.hid (setRow_heap _ (w.heap.size + 1) _ ((⟨k, 0, n, F, []⟩ : Fr).c (.slice va n vc) (.slice none 0 0)) _ _ hf.out)
          replace hB := Lib.hid (below_setRow' hB.out (Nat.le_succ w.heap.size) ((⟨k, 0, n, F, []⟩ : Fr).c (.slice va n vc) (.slice none 0 0)))
          clear f1 f2 f3 d1 d2 d3
          go_wp2_with (first
            | (refine wpList_load_row_g rfl 105 _ rfl (w.heap.size + 1) rfl 105 ((⟨k, 0, n, F, []⟩ : Fr).c (.slice va n vc) (.slice none 0 0)) (0, 0) _ hf.out Tryz.underlying105 rfl info_frame ?_)
            | (refine wpList_store_row rfl 105 _ _ rfl w.heap.size ((⟨k, 0, n, F, []⟩ : Fr).c (.slice va n vc) (.slice none 0 0)) rfl rfl 105 _ hs.out info_frame rfl (fr_one _ _ _ _ _ _ _) ?_))
          refine bodyPost_ret (results_row_tmp2 rfl _ _ w.heap.size 105 _ _ _ rfl (setRow_heap _ _ _ _ _ _ hs.out) Tryz.underlying105 rfl info_frame) rfl ?_
          exact ⟨below_setRow' hB.out (Nat.le_refl _) _, (fun h => by rw [hn.out] at h; cases h), fun f u' h => by
            rw [hn.out] at h
            obtain ⟨e1, e2⟩ := Prod.mk.inj (Option.some.inj h)
            subst e1 e2
            exact ⟨_, _, rfl, heldI_lower (held_setRow (held_setRow hH.out (by have := hszh.out; omega) _) (by have := hszh.out; omega) _) (by have := hszh.out; omega), heldS_nil _ _⟩⟩
  · rw [hk] at hK
    replace p1 := p1.out hk
    clear p2 p3 p4 hk
    have hS := Lib.hid (readNumber_any b _ W hrb.out hbb.out)
    cases hre : readF b with
    | none =>
      rw [hre] at p1
      have hn := Lib.hid p1
      obtain ⟨e1, e2, e3⟩ := rd_none hre
      have hS2 := Lib.hid (hS.out.mono fun e w' h => (show e = .returned (.tuple #[.int .u64 ((0 : Nat) : Int), .int .i64 0, .int .i64 12]) ∧ W = w' from ⟨by rw [h.1, e1, e2, e3]; rfl, h.2⟩))
      clear hS p1 hre e1 e2 e3
      go_enter Tryz.func90, Tryz.ntmps90
      go_upto_region 2 with fail
      change Code.wp _ _ _ _ ((w.alloc (.cells ((kF 0).c (.slice none 0 0) (.slice none 0 0)) 105)).alloc (.cells ((kF k).c (.slice none 0 0) (.slice none 0 0)) 105))
      rw [← hW]
      clear hW
      go_upto_region 9 with (first | (go_at_call 113; (with_reducible refine (hK.out _).mono ?_); rintro e w2 ⟨rfl, rfl⟩) | (go_at_call 46; (with_reducible refine (hS2.out).mono ?_); rintro e w3 ⟨rfl, rfl⟩; have f1 := frozen_of_row _ (w.heap.size + 1) 1 _ _ hf.out; have f2 := frozen_of_row _ (w.heap.size + 1) 2 _ _ hf.out; have f3 := frozen_of_row _ (w.heap.size + 1) 3 _ _ hf.out; obtain ⟨_, d1, d2, d3⟩ := cellsF hf.out))
      rw [(show W.setCell ⟨w.heap.size + 1, 1, none⟩ (.int .u64 0) = W.setRow (w.heap.size + 1) ((⟨k, 0, 0, [], []⟩ : Fr).c (.slice none 0 0) (.slice none 0 0)) from setN hf.out 0)]
      replace hs := Lib.hid ((setRow_other _ (w.heap.size + 1) w.heap.size ((⟨k, 0, 0, [], []⟩ : Fr).c (.slice none 0 0) (.slice none 0 0)) (by omega)).trans hs.out)
      replace hf := Lib.hid (setRow_heap _ (w.heap.size + 1) _ ((⟨k, 0, 0, [], []⟩ : Fr).c (.slice none 0 0) (.slice none 0 0)) _ _ hf.out)
      replace hB := Lib.hid (below_setRow' hB.out (Nat.le_succ w.heap.size) ((⟨k, 0, 0, [], []⟩ : Fr).c (.slice none 0 0) (.slice none 0 0)))
      clear f1 f2 f3 d1 d2 d3
      go_wp2_with (first
        | (refine wpList_load_row_g rfl 105 _ rfl (w.heap.size + 1) rfl 105 ((⟨k, 0, 0, [], []⟩ : Fr).c (.slice none 0 0) (.slice none 0 0)) (0, 0) _ hf.out Tryz.underlying105 rfl info_frame ?_)
        | (refine wpList_store_row rfl 105 _ _ rfl w.heap.size ((⟨k, 0, 0, [], []⟩ : Fr).c (.slice none 0 0) (.slice none 0 0)) rfl rfl 105 _ hs.out info_frame rfl (fr_one _ _ _ _ _ _ _) ?_))
      refine bodyPost_ret (results_row_tmp2 rfl _ _ w.heap.size 105 _ _ _ rfl (setRow_heap _ _ _ _ _ _ hs.out) Tryz.underlying105 rfl info_frame) rfl ?_
      exact ⟨below_setRow' hB.out (Nat.le_refl _) _, fun _ => rfl, fun f u h => by rw [hn.out] at h; cases h⟩
    | some q =>
      obtain ⟨N, u⟩ := q
      rw [hre] at p1
      have hn := Lib.hid p1
      obtain ⟨e1, e2, e3⟩ := rd_some hre
      have hS2 := Lib.hid (hS.out.mono fun e w' h => (show e = .returned (.tuple #[.int .u64 ((N : Nat) : Int), .int .i64 ((u : Nat) : Int), .int .i64 0]) ∧ W = w' from ⟨by rw [h.1, e1, e2, e3], h.2⟩))
      clear hS p1 hre e1 e2 e3
      go_enter Tryz.func90, Tryz.ntmps90
      go_upto_region 2 with fail
      change Code.wp _ _ _ _ ((w.alloc (.cells ((kF 0).c (.slice none 0 0) (.slice none 0 0)) 105)).alloc (.cells ((kF k).c (.slice none 0 0) (.slice none 0 0)) 105))
      rw [← hW]
      clear hW
      go_upto_region 9 with (first | (go_at_call 113; (with_reducible refine (hK.out _).mono ?_); rintro e w2 ⟨rfl, rfl⟩) | (go_at_call 46; (with_reducible refine (hS2.out).mono ?_); rintro e w3 ⟨rfl, rfl⟩; have f1 := frozen_of_row _ (w.heap.size + 1) 1 _ _ hf.out; have f2 := frozen_of_row _ (w.heap.size + 1) 2 _ _ hf.out; have f3 := frozen_of_row _ (w.heap.size + 1) 3 _ _ hf.out; obtain ⟨_, d1, d2, d3⟩ := cellsF hf.out))
      rw [setN hf.out N]
      replace hs := Lib.hid ((setRow_other _ (w.heap.size + 1) w.heap.size ((⟨k, N, 0, [], []⟩ : Fr).c (.slice none 0 0) (.slice none 0 0)) (by omega)).trans hs.out)
      replace hf := Lib.hid (setRow_heap _ (w.heap.size + 1) _ ((⟨k, N, 0, [], []⟩ : Fr).c (.slice none 0 0) (.slice none 0 0)) _ _ hf.out)
      replace hB := Lib.hid (below_setRow' hB.out (Nat.le_succ w.heap.size) ((⟨k, N, 0, [], []⟩ : Fr).c (.slice none 0 0) (.slice none 0 0)))
      clear f1 f2 f3 d1 d2 d3
      go_wp2_with (first
        | (refine wpList_load_row_g rfl 105 _ rfl (w.heap.size + 1) rfl 105 ((⟨k, N, 0, [], []⟩ : Fr).c (.slice none 0 0) (.slice none 0 0)) (0, 0) _ hf.out Tryz.underlying105 rfl info_frame ?_)
        | (refine wpList_store_row rfl 105 _ _ rfl w.heap.size ((⟨k, N, 0, [], []⟩ : Fr).c (.slice none 0 0) (.slice none 0 0)) rfl rfl 105 _ hs.out info_frame rfl (fr_one _ _ _ _ _ _ _) ?_))
      refine bodyPost_ret (results_row_tmp2 rfl _ _ w.heap.size 105 _ _ _ rfl (setRow_heap _ _ _ _ _ _ hs.out) Tryz.underlying105 rfl info_frame) rfl ?_
      exact ⟨below_setRow' hB.out (Nat.le_refl _) _, (fun h => by rw [hn.out] at h; cases h), fun f u' h => by
        rw [hn.out] at h
        obtain ⟨e1, e2⟩ := Prod.mk.inj (Option.some.inj h)
        subst e1 e2
        exact ⟨_, _, rfl, heldI_nil _ _, heldS_nil _ _⟩⟩
end Go.Proofs.YtfaojjleapenaabGreatDoor.wir.frm
namespace Go.Proofs.YtfaojjleapenaabGreatDoor.wir.frm
open Go.RowKit Go.YtfaojjleapenaabGreatDoor
set_option linter.unusedVariables false
theorem quiet_cell {P : Program} {C : World → Prop} {o : Oper} {a : Act} (ty : TypeId) (x : Operand) (ho : o.op = .load ty x) (g k : Nat) (hx : a.eval x = .pointer (some ⟨g, k, none⟩)) (v : Value)
    (hC : ∀ w, C w → w.cell? ⟨g, k, none⟩ = some v) (hu : ∀ w, (isAgg ty).run P w = .ok false w) : ∀ w, C w → o.quietAt P a C w v := by
  intro w hw
  have hc := hC w hw
  unfold Oper.quietAt execOp
  generalize a.eval = ev at *
  simp only [ho]
  simp [go_sem, hx, hu, hc]
theorem parse_short {l : List Int} (h : l.length = 0 ∨ 2000 < l.length) : parseF l = none := if_pos h
theorem parse_none {l : List Int} (h : ¬ (l.length = 0 ∨ 2000 < l.length)) (h2 : readR (ith l 0) (l.drop 1) = none) : parseF l = none := by
  unfold parseF
  rw [if_neg h, h2]
theorem parse_not {l : List Int} (h : ¬ (l.length = 0 ∨ 2000 < l.length)) {f : Fr} {u : Nat} (h2 : readR (ith l 0) (l.drop 1) = some (f, u)) (h3 : u ≠ l.length - 1) : parseF l = none := by
  unfold parseF
  rw [if_neg h, h2]
  exact if_neg h3
theorem parse_some {l : List Int} (h : ¬ (l.length = 0 ∨ 2000 < l.length)) {f : Fr} {u : Nat} (h2 : readR (ith l 0) (l.drop 1) = some (f, u)) (h3 : u = l.length - 1) : parseF l = some f := by
  unfold parseF
  rw [if_neg h, h2]
  exact if_pos h3
def parsePost (w : World) (b : List Int) (e : Ending) (w' : World) : Prop :=
  Below w.heap.size w w' ∧ (parseF b = none → e = .returned (.tuple #[.agg ((kF 0).c (.slice none 0 0) (.slice none 0 0)), .int .i64 12])) ∧
    ∀ f, parseF b = some f → ∃ iv ov, e = .returned (.tuple #[.agg (f.c iv ov), .int .i64 0]) ∧ HeldI w.heap.size w' iv f.n f.F ∧ HeldS w.heap.size w' ov f.L
set_option maxHeartbeats 4000000 in
set_option maxRecDepth 100000 in
theorem parse_any (b : List Int) (bv : Value) (w : World) (hr : RdB w bv b) (hb : Bytes b) :
    Calls Tryz.prog 59 #[bv] w (parsePost w b) := by
  obtain ⟨W, hW⟩ : ∃ W, W = w.alloc (.cells ((kF 0).c (.slice none 0 0) (.slice none 0 0)) 105) := ⟨_, rfl⟩
  have hr0 : W.heap[w.heap.size]? = some (.cells ((kF 0).c (.slice none 0 0) (.slice none 0 0)) 105 (0, 0)) := by rw [hW]; exact heap_alloc_new w _
  have hb0 : Below w.heap.size w W := by rw [hW]; exact (Below.refl w.heap.size w).alloc (Nat.le_refl _) _
  have hsz : W.heap.size = w.heap.size + 1 := by rw [hW]; simp
  obtain ⟨ba, bc, rfl⟩ := hr.slice
  have hB := Lib.hid hb0
  have hs := Lib.hid hr0
  have hrb := Lib.hid (hr.mono hb0)
  have hszh := Lib.hid hsz
  have hbb := Lib.hid hb
  obtain ⟨NB, hNB⟩ : ∃ NB, b.length = NB := ⟨_, rfl⟩
  have hNBh := Lib.hid hNB
  rw [hNB] at hrb ⊢
  clear hr0 hb0 hsz hr hb
  by_cases hg : NB = 0 ∨ 2000 < NB
  · have hn := Lib.hid (parse_short (l := b) (by rw [hNB]; exact hg))
    clear hNB
    rcases hg with rfl | hg
    all_goals
      go_enter Tryz.func59, Tryz.ntmps59
      go_upto_region 1 with fail
      change Code.wp _ _ _ _ (w.alloc (.cells ((kF 0).c (.slice none 0 0) (.slice none 0 0)) 105))
      rw [← hW]
      clear hW
      go_wp2_with (refine wpList_store_row rfl 105 _ _ rfl w.heap.size ((kF 0).c (.slice none 0 0) (.slice none 0 0)) rfl rfl 105 _ hs.out info_frame rfl (fr_one _ _ _ _ _ _ _) ?_)
      refine bodyPost_ret (results_row_tmp rfl _ _ w.heap.size 105 _ _ _ rfl (setRow_heap _ _ _ _ _ _ hs.out) Tryz.underlying105 rfl info_frame) rfl ?_
      exact ⟨below_setRow' hB.out (Nat.le_refl _) _, (fun _ => rfl), fun f h => by rw [hn.out] at h; cases h⟩
  · have hgn : ¬ (b.length = 0 ∨ 2000 < b.length) := by rw [hNB]; exact hg
    have n1 : ¬ NB = 0 := fun h => hg (.inl h)
    have n2 : ¬ 2000 < NB := fun h => hg (.inr h)
    have d1 : ((NB : Int) == 0) = false := by simpa using n1
    have d2 : decide ((2000 : Int) < (NB : Int)) = false := decide_eq_false (by omega)
    have d3 : ¬ ((2000 : Int) < (NB : Int)) := by omega
    clear hg
    rcases hrb.out with ⟨_, _, hx, _, _⟩ | ⟨bb, o, c, hx, r1, r2, r3, r4⟩
    · obtain ⟨_, e2, _⟩ := Value.slice.inj hx
      exact absurd e2 n1
    obtain ⟨e1, e2, e3⟩ := Value.slice.inj hx
    clear e2 hx
    subst e1 e3
    have hc0 := Lib.hid (r4 0 (by omega))
    rw [Nat.add_zero] at hc0
    have hlen := Lib.hid r1
    have hbd := bytes_drop b 1 hbb.out
    have hrd := rdB_from hrb.out hNB 1 (by omega)
    have hx0 := hbb.out 0
    have hl1 : (b.drop 1).length ≤ 100000 := by rw [List.length_drop]; omega
    have hR := Lib.hid (fun bv wz (h : RdB wz bv (b.drop 1)) => read_any (ith b 0) (b.drop 1) bv wz h hbd hl1)
    have hpn := Lib.hid (fun h => parse_none (l := b) hgn h)
    have hpx := Lib.hid (fun f u h h2 => parse_not (l := b) hgn (f := f) (u := u) h h2)
    have hpy := Lib.hid (fun f u h h2 => parse_some (l := b) hgn (f := f) (u := u) h h2)
    rw [hNB] at hpx hpy
    rw [hNB] at hlen
    have hbu := Lib.hid (fun f u h => (readR_back hx0 hbd hl1 (f := f) (u := u) h).2.2.2.1)
    clear r4 r1 r2 hgn hbd hl1 hNB
    generalize ith b 0 = k at *
    rcases Decidable.em (bc = 1) with rfl | hc1
    · have hr1 := Lib.hid (show RdB W (.slice (some ⟨bb, o, none⟩) (NB - 1) 0) (b.drop 1) by rw [show NB - 1 = 0 by have := hlen.out; omega]; exact hrd.1 rfl)
      go_enter Tryz.func59, Tryz.ntmps59
      go_upto_region 1 with fail
      change Code.wp _ _ _ _ (w.alloc (.cells ((kF 0).c (.slice none 0 0) (.slice none 0 0)) 105))
      rw [← hW]
      clear hW
      go_upto_region 3 with fail
      refine wp_region_quiet (C := fun w' => Below W.heap.size W w') (by kernel_rfl) (by kernel_rfl) ((Below.refl _ _).drew) ?_
      simp only []
      (go_big_quiet_want; go_big_quiet_op; first | go_big_quiet_on | (refine ⟨_, fun _ _ => rfl, ?_⟩; go_big_quiet_on))
      (go_big_quiet_want; go_big_quiet_op; first | go_big_quiet_on | (refine ⟨_, fun _ _ => rfl, ?_⟩; go_big_quiet_on))
      refine wpq (.int .u8 k) rfl (quiet_cell 5 _ rfl bb o rfl (.int .u8 k) (fun w h => (h.cell (p := (⟨bb, o, none⟩ : Addr)) r3).trans hc0.out) Tryz.isAgg5) rfl (fun K hK => ?_); go_simp; refine hK _ ?_; clear hK K
      (go_big_quiet_want; go_big_quiet_op; first | go_big_quiet_on | (refine ⟨_, fun _ _ => rfl, ?_⟩; go_big_quiet_on))
      (go_big_quiet_want; go_big_quiet_op; first | go_big_quiet_on | (refine ⟨_, fun _ _ => rfl, ?_⟩; go_big_quiet_on))
      (go_big_quiet_want; go_big_quiet_op; first | go_big_quiet_on | (refine ⟨_, fun _ _ => rfl, ?_⟩; go_big_quiet_on))
      (go_big_quiet_want; go_big_quiet_op; first | go_big_quiet_on | (refine ⟨_, fun _ _ => rfl, ?_⟩; go_big_quiet_on))
      refine wpQuiet_nil ?_
      intro w2 h2
      replace hs := Lib.hid (rowB hs.out h2 (Array.getElem?_eq_some_iff.1 hs.out).1)
      have hz2 := Lib.hid h2.size
      have hP := Lib.hid (hR.out _ _ (hr1.out.mono h2))
      replace hB := Lib.hid (hB.out.trans (h2.mono hB.out.size))
      clear h2 hr1 hc0 hR hrd
      generalize hD : NB - 1 = D at *
      cases hre : readR k (b.drop 1) with
      | none =>
        have hn := Lib.hid (hpn.out hre)
        have hP2 := Lib.hid (hP.out.mono fun e w' h => (show e = .returned (.tuple #[.agg ((kF k).c (.slice none 0 0) (.slice none 0 0)), .int .i64 0, .int .i64 12]) ∧ Below w2.heap.size w2 w' from ⟨h.2.1 hre, h.1⟩))
        clear hP hpn hpx hpy hbu hre
        go_upto_region 5 with (go_at_call 90; (with_reducible refine (hP2.out).mono ?_); rintro e w3 ⟨rfl, q2⟩; replace hs := Lib.hid (rowB hs.out q2 (Array.getElem?_eq_some_iff.1 hs.out).1); replace hB := Lib.hid (hB.out.trans (q2.mono hB.out.size)); clear q2)
        have q5 := below_a w3 (.cells ((kF k).c (.slice none 0 0) (.slice none 0 0)) 105)
        have hf := Lib.hid (heap_alloc_new w3 (.cells ((kF k).c (.slice none 0 0) (.slice none 0 0)) 105))
        replace hs := Lib.hid (rowB hs.out q5 (Array.getElem?_eq_some_iff.1 hs.out).1)
        replace hB := Lib.hid (hB.out.trans (q5.mono hB.out.size))
        clear q5
        change Code.wp _ _ _ _ (w3.alloc (.cells ((kF k).c (.slice none 0 0) (.slice none 0 0)) 105))
        generalize w3.alloc (.cells ((kF k).c (.slice none 0 0) (.slice none 0 0)) 105) = w4 at *
        generalize w3.heap.size = g4 at *
        go_wp2_with (refine wpList_store_row rfl 105 _ _ rfl w.heap.size ((kF 0).c (.slice none 0 0) (.slice none 0 0)) rfl rfl 105 _ hs.out info_frame rfl (fr_one _ _ _ _ _ _ _) ?_)
        refine bodyPost_ret (results_row_tmp rfl _ _ w.heap.size 105 _ _ _ rfl (setRow_heap _ _ _ _ _ _ hs.out) Tryz.underlying105 rfl info_frame) rfl ?_
        exact ⟨below_setRow' hB.out (Nat.le_refl _) _, (fun _ => rfl), fun f h => by rw [hn.out] at h; cases h⟩
      | some q =>
        obtain ⟨f, u⟩ := q
        have hP2 := Lib.hid (hP.out.mono fun e w' h => (show ∃ va vc oa oc, e = .returned (.tuple #[.agg (f.c (.slice va f.n vc) (.slice oa f.L.length oc)), .int .i64 ((u : Nat) : Int), .int .i64 0]) ∧ HeldI w2.heap.size w' (.slice va f.n vc) f.n f.F ∧ HeldS w2.heap.size w' (.slice oa f.L.length oc) f.L ∧ Below w2.heap.size w2 w' from by
          obtain ⟨iv, ov, h1, h2, h3⟩ := h.2.2 f u hre
          obtain ⟨va, vc, rfl⟩ := (heldI_rd h2).slice
          obtain ⟨oa, oc, rfl⟩ := (heldS_rd h3).slice
          exact ⟨va, vc, oa, oc, h1, h2, h3, h.1⟩))
        have hx := Lib.hid (hpx.out f u hre)
        have hy := Lib.hid (hpy.out f u hre)
        clear hP hpn hpx hpy hbu hre
        go_upto_region 5 with (go_at_call 90; (with_reducible refine (hP2.out).mono ?_); rintro e w3 ⟨va, vc, oa, oc, rfl, q3, q4, q2⟩; replace hs := Lib.hid (rowB hs.out q2 (Array.getElem?_eq_some_iff.1 hs.out).1); have hz3 := Lib.hid hB.out.size; replace hB := Lib.hid (hB.out.trans (q2.mono hB.out.size)); have hI := Lib.hid q3; have hO := Lib.hid q4; clear q2 q3 q4)
        have q5 := below_a w3 (.cells (f.c (.slice va f.n vc) (.slice oa f.L.length oc)) 105)
        have hf := Lib.hid (heap_alloc_new w3 (.cells (f.c (.slice va f.n vc) (.slice oa f.L.length oc)) 105))
        replace hs := Lib.hid (rowB hs.out q5 (Array.getElem?_eq_some_iff.1 hs.out).1)
        replace hB := Lib.hid (hB.out.trans (q5.mono hB.out.size))
        replace hI := Lib.hid (heldI_mono hI.out q5)
        replace hO := Lib.hid (heldS_mono hO.out q5)
        clear q5
        change Code.wp _ _ _ _ (w3.alloc (.cells (f.c (.slice va f.n vc) (.slice oa f.L.length oc)) 105))
        generalize w3.alloc (.cells (f.c (.slice va f.n vc) (.slice oa f.L.length oc)) 105) = w4 at *
        generalize w3.heap.size = g4 at *
        by_cases hu : u = D
        · subst hu
          have hn := Lib.hid (hy.out rfl)
          clear hx hy
          have d5 : ((u : Int) != (u : Int)) = false := by simp
          go_wp2_with (first
            | (refine wpList_load_row_g rfl 105 _ rfl g4 rfl 105 (f.c (.slice va f.n vc) (.slice oa f.L.length oc)) (0, 0) _ hf.out Tryz.underlying105 rfl info_frame ?_)
            | (refine wpList_store_row rfl 105 _ _ rfl w.heap.size (f.c (.slice va f.n vc) (.slice oa f.L.length oc)) rfl rfl 105 _ hs.out info_frame rfl (fr_one _ _ _ _ _ _ _) ?_))
          refine bodyPost_ret (results_row_tmp rfl _ _ w.heap.size 105 _ _ _ rfl (setRow_heap _ _ _ _ _ _ hs.out) Tryz.underlying105 rfl info_frame) rfl ?_
          exact ⟨below_setRow' hB.out (Nat.le_refl _) _, (fun h => by rw [hn.out] at h; cases h), fun f' h => by
            rw [hn.out] at h
            obtain rfl := Option.some.inj h
            exact ⟨_, _, rfl, heldI_lower (held_setRow hI.out (by have := hszh.out; have := hz2.out; omega) _) hz3.out, heldS_lower (heldS_setRow hO.out (by have := hszh.out; have := hz2.out; omega) _) hz3.out⟩⟩
        · have hn := Lib.hid (hx.out hu)
          clear hx hy
          have d5 : ((u : Int) != (D : Int)) = true := by simp only [bne_iff_ne, ne_eq]; omega
          go_wp2_with (refine wpList_store_row rfl 105 _ _ rfl w.heap.size ((kF 0).c (.slice none 0 0) (.slice none 0 0)) rfl rfl 105 _ hs.out info_frame rfl (fr_one _ _ _ _ _ _ _) ?_)
          refine bodyPost_ret (results_row_tmp rfl _ _ w.heap.size 105 _ _ _ rfl (setRow_heap _ _ _ _ _ _ hs.out) Tryz.underlying105 rfl info_frame) rfl ?_
          exact ⟨below_setRow' hB.out (Nat.le_refl _) _, (fun _ => rfl), fun f h => by rw [hn.out] at h; cases h⟩
    · have hr1 := Lib.hid (hrd.2 hc1)
      go_enter Tryz.func59, Tryz.ntmps59
      go_upto_region 1 with fail
      change Code.wp _ _ _ _ (w.alloc (.cells ((kF 0).c (.slice none 0 0) (.slice none 0 0)) 105))
      rw [← hW]
      clear hW
      go_upto_region 3 with fail
      refine wp_region_quiet (C := fun w' => Below W.heap.size W w') (by kernel_rfl) (by kernel_rfl) ((Below.refl _ _).drew) ?_
      simp only []
      (go_big_quiet_want; go_big_quiet_op; first | go_big_quiet_on | (refine ⟨_, fun _ _ => rfl, ?_⟩; go_big_quiet_on))
      (go_big_quiet_want; go_big_quiet_op; first | go_big_quiet_on | (refine ⟨_, fun _ _ => rfl, ?_⟩; go_big_quiet_on))
      refine wpq (.int .u8 k) rfl (quiet_cell 5 _ rfl bb o rfl (.int .u8 k) (fun w h => (h.cell (p := (⟨bb, o, none⟩ : Addr)) r3).trans hc0.out) Tryz.isAgg5) rfl (fun K hK => ?_); go_simp; refine hK _ ?_; clear hK K
      (go_big_quiet_want; go_big_quiet_op; first | go_big_quiet_on | (refine ⟨_, fun _ _ => rfl, ?_⟩; go_big_quiet_on))
      (go_big_quiet_want; go_big_quiet_op; first | go_big_quiet_on | (refine ⟨_, fun _ _ => rfl, ?_⟩; go_big_quiet_on))
      (go_big_quiet_want; go_big_quiet_op; first | go_big_quiet_on | (refine ⟨_, fun _ _ => rfl, ?_⟩; go_big_quiet_on))
      (go_big_quiet_want; go_big_quiet_op; first | go_big_quiet_on | (refine ⟨_, fun _ _ => rfl, ?_⟩; go_big_quiet_on))
      refine wpQuiet_nil ?_
      intro w2 h2
      replace hs := Lib.hid (rowB hs.out h2 (Array.getElem?_eq_some_iff.1 hs.out).1)
      have hz2 := Lib.hid h2.size
      have hP := Lib.hid (hR.out _ _ (hr1.out.mono h2))
      replace hB := Lib.hid (hB.out.trans (h2.mono hB.out.size))
      clear h2 hr1 hc0 hR hrd
      generalize hD : NB - 1 = D at *
      cases hre : readR k (b.drop 1) with
      | none =>
        have hn := Lib.hid (hpn.out hre)
        have hP2 := Lib.hid (hP.out.mono fun e w' h => (show e = .returned (.tuple #[.agg ((kF k).c (.slice none 0 0) (.slice none 0 0)), .int .i64 0, .int .i64 12]) ∧ Below w2.heap.size w2 w' from ⟨h.2.1 hre, h.1⟩))
        clear hP hpn hpx hpy hbu hre
        go_upto_region 5 with (go_at_call 90; (with_reducible refine (hP2.out).mono ?_); rintro e w3 ⟨rfl, q2⟩; replace hs := Lib.hid (rowB hs.out q2 (Array.getElem?_eq_some_iff.1 hs.out).1); replace hB := Lib.hid (hB.out.trans (q2.mono hB.out.size)); clear q2)
        have q5 := below_a w3 (.cells ((kF k).c (.slice none 0 0) (.slice none 0 0)) 105)
        have hf := Lib.hid (heap_alloc_new w3 (.cells ((kF k).c (.slice none 0 0) (.slice none 0 0)) 105))
        replace hs := Lib.hid (rowB hs.out q5 (Array.getElem?_eq_some_iff.1 hs.out).1)
        replace hB := Lib.hid (hB.out.trans (q5.mono hB.out.size))
        clear q5
        change Code.wp _ _ _ _ (w3.alloc (.cells ((kF k).c (.slice none 0 0) (.slice none 0 0)) 105))
        generalize w3.alloc (.cells ((kF k).c (.slice none 0 0) (.slice none 0 0)) 105) = w4 at *
        generalize w3.heap.size = g4 at *
        go_wp2_with (refine wpList_store_row rfl 105 _ _ rfl w.heap.size ((kF 0).c (.slice none 0 0) (.slice none 0 0)) rfl rfl 105 _ hs.out info_frame rfl (fr_one _ _ _ _ _ _ _) ?_)
        refine bodyPost_ret (results_row_tmp rfl _ _ w.heap.size 105 _ _ _ rfl (setRow_heap _ _ _ _ _ _ hs.out) Tryz.underlying105 rfl info_frame) rfl ?_
        exact ⟨below_setRow' hB.out (Nat.le_refl _) _, (fun _ => rfl), fun f h => by rw [hn.out] at h; cases h⟩
      | some q =>
        obtain ⟨f, u⟩ := q
        have hP2 := Lib.hid (hP.out.mono fun e w' h => (show ∃ va vc oa oc, e = .returned (.tuple #[.agg (f.c (.slice va f.n vc) (.slice oa f.L.length oc)), .int .i64 ((u : Nat) : Int), .int .i64 0]) ∧ HeldI w2.heap.size w' (.slice va f.n vc) f.n f.F ∧ HeldS w2.heap.size w' (.slice oa f.L.length oc) f.L ∧ Below w2.heap.size w2 w' from by
          obtain ⟨iv, ov, h1, h2, h3⟩ := h.2.2 f u hre
          obtain ⟨va, vc, rfl⟩ := (heldI_rd h2).slice
          obtain ⟨oa, oc, rfl⟩ := (heldS_rd h3).slice
          exact ⟨va, vc, oa, oc, h1, h2, h3, h.1⟩))
        have hx := Lib.hid (hpx.out f u hre)
        have hy := Lib.hid (hpy.out f u hre)
        clear hP hpn hpx hpy hbu hre
        go_upto_region 5 with (go_at_call 90; (with_reducible refine (hP2.out).mono ?_); rintro e w3 ⟨va, vc, oa, oc, rfl, q3, q4, q2⟩; replace hs := Lib.hid (rowB hs.out q2 (Array.getElem?_eq_some_iff.1 hs.out).1); have hz3 := Lib.hid hB.out.size; replace hB := Lib.hid (hB.out.trans (q2.mono hB.out.size)); have hI := Lib.hid q3; have hO := Lib.hid q4; clear q2 q3 q4)
        have q5 := below_a w3 (.cells (f.c (.slice va f.n vc) (.slice oa f.L.length oc)) 105)
        have hf := Lib.hid (heap_alloc_new w3 (.cells (f.c (.slice va f.n vc) (.slice oa f.L.length oc)) 105))
        replace hs := Lib.hid (rowB hs.out q5 (Array.getElem?_eq_some_iff.1 hs.out).1)
        replace hB := Lib.hid (hB.out.trans (q5.mono hB.out.size))
        replace hI := Lib.hid (heldI_mono hI.out q5)
        replace hO := Lib.hid (heldS_mono hO.out q5)
        clear q5
        change Code.wp _ _ _ _ (w3.alloc (.cells (f.c (.slice va f.n vc) (.slice oa f.L.length oc)) 105))
        generalize w3.alloc (.cells (f.c (.slice va f.n vc) (.slice oa f.L.length oc)) 105) = w4 at *
        generalize w3.heap.size = g4 at *
        by_cases hu : u = D
        · subst hu
          have hn := Lib.hid (hy.out rfl)
          clear hx hy
          have d5 : ((u : Int) != (u : Int)) = false := by simp
          go_wp2_with (first
            | (refine wpList_load_row_g rfl 105 _ rfl g4 rfl 105 (f.c (.slice va f.n vc) (.slice oa f.L.length oc)) (0, 0) _ hf.out Tryz.underlying105 rfl info_frame ?_)
            | (refine wpList_store_row rfl 105 _ _ rfl w.heap.size (f.c (.slice va f.n vc) (.slice oa f.L.length oc)) rfl rfl 105 _ hs.out info_frame rfl (fr_one _ _ _ _ _ _ _) ?_))
          refine bodyPost_ret (results_row_tmp rfl _ _ w.heap.size 105 _ _ _ rfl (setRow_heap _ _ _ _ _ _ hs.out) Tryz.underlying105 rfl info_frame) rfl ?_
          exact ⟨below_setRow' hB.out (Nat.le_refl _) _, (fun h => by rw [hn.out] at h; cases h), fun f' h => by
            rw [hn.out] at h
            obtain rfl := Option.some.inj h
            exact ⟨_, _, rfl, heldI_lower (held_setRow hI.out (by have := hszh.out; have := hz2.out; omega) _) hz3.out, heldS_lower (heldS_setRow hO.out (by have := hszh.out; have := hz2.out; omega) _) hz3.out⟩⟩
        · have hn := Lib.hid (hx.out hu)
          clear hx hy
          have d5 : ((u : Int) != (D : Int)) = true := by simp only [bne_iff_ne, ne_eq]; omega
          go_wp2_with (refine wpList_store_row rfl 105 _ _ rfl w.heap.size ((kF 0).c (.slice none 0 0) (.slice none 0 0)) rfl rfl 105 _ hs.out info_frame rfl (fr_one _ _ _ _ _ _ _) ?_)
          refine bodyPost_ret (results_row_tmp rfl _ _ w.heap.size 105 _ _ _ rfl (setRow_heap _ _ _ _ _ _ hs.out) Tryz.underlying105 rfl info_frame) rfl ?_
          exact ⟨below_setRow' hB.out (Nat.le_refl _) _, (fun _ => rfl), fun f h => by rw [hn.out] at h; cases h⟩
end Go.Proofs.YtfaojjleapenaabGreatDoor.wir.frm
namespace Go.Proofs.YtfaojjleapenaabGreatDoor.wir.val.top
open Go.RowKit Go.YtfaojjleapenaabGreatDoor
set_option linter.unusedVariables false
theorem rdS_frm {w : World} {v : Value} {L : List (List Int)} (h : RdS w v L) : Go.YtfaojjleapenaabGreatDoor.RdS w v L := h
theorem loadR {P : Program} {ops : Array Oper} {rest : List Oper} {o : Oper} {a : Act} {w : World} {Q : Exit → Act → World → Prop} (ty : TypeId) (x : Operand) (ho : o.op = .load ty x) (g : Nat) (hx : a.eval x = .pointer (some ⟨g, 0, none⟩)) (hw : Region.wanted o (yielded ops a.tmps) = true)
    (t : TypeId) (cs : Array Value) (fr : Nat × Nat) (d : TypeDesc) (hg : w.heap[g]? = some (.cells cs t fr))
    (hu : P.underlying ty = some d) (hd : (match d with | .struct _ | .array _ _ => true | _ => false) = true) (hi : (P.info? ty).map (·.size) = some cs.size)
    (h : wpList P ops Q rest (a.put o.dst (.agg cs)) w) : wpList P ops Q (o :: rest) a w := wpList_load_row_g hw ty x ho g hx t cs fr d hg hu hd hi h
theorem neqR {P : Program} {ops : Array Oper} {rest : List Oper} {o : Oper} {a : Act} {w : World} {Q : Exit → Act → World → Prop} (T : TypeId) (x y : Operand) (ho : o.op = .binOp .neq T x y T) (cx cy : Array Value) (hx : a.eval x = .agg cx) (hy : a.eval y = .agg cy) (hw : Region.wanted o (yielded ops a.tmps) = true)
    (h0 : P.eqGuardType P.depth T = false) (B : Bool) (hrun : (binOp .neq T (.agg cx) (.agg cy)).run P w = .ok (.bool B) w) (h : wpList P ops Q rest (a.put o.dst (.bool B)) w) : wpList P ops Q (o :: rest) a w := wpList_neqS hw T x y ho cx cy hx hy h0 B hrun h
theorem eqlR {P : Program} {ops : Array Oper} {rest : List Oper} {o : Oper} {a : Act} {w : World} {Q : Exit → Act → World → Prop} (T : TypeId) (x y : Operand) (ho : o.op = .binOp .eql T x y T) (cx cy : Array Value) (hx : a.eval x = .agg cx) (hy : a.eval y = .agg cy) (hw : Region.wanted o (yielded ops a.tmps) = true)
    (h0 : P.eqGuardType P.depth T = false) (B : Bool) (hrun : (binOp .eql T (.agg cx) (.agg cy)).run P w = .ok (.bool B) w) (h : wpList P ops Q rest (a.put o.dst (.bool B)) w) : wpList P ops Q (o :: rest) a w := wpList_eqlS hw T x y ho cx cy hx hy h0 B hrun h
/-- A frame with two strings. -/
def twoF (B C : List Int) : frm.Fr := ⟨5, 0, 0, [], [B, C]⟩
theorem nthL_two (B C : List Int) (i : Nat) : nthL [B, C] i = if i = 0 then B else if i = 1 then C else [] := by
  match i with
  | 0 => rfl
  | 1 => rfl
  | i + 2 => simp [nthL]
theorem twoF_fit (B C : List Int) (hB : Bytes B) (hC : Bytes C) (lB : B.length ≤ 400) (lC : C.length ≤ 400) : (twoF B C).Fit := by
  refine ⟨by show (0 : Int) ≤ 5 ∧ (5 : Int) < 256; omega, by show 0 < 18446744073709551616; omega, by show 0 ≤ 100000; omega, bytes_nil, rfl, by show 2 ≤ 100000; omega, fun i => ?_, fun i => ?_⟩
  · show Bytes (nthL [B, C] i)
    rw [nthL_two]
    split
    · exact hB
    · split
      · exact hC
      · exact bytes_nil
  · show (nthL [B, C] i).length ≤ 1000000
    rw [nthL_two]
    split
    · omega
    · split
      · omega
      · simp
theorem twoF_ok (B C : List Int) (lB : B.length ≤ 400) (lC : C.length ≤ 400) : frm.frOk (twoF B C) = true := by
  have n1 := numL_le B.length (by omega)
  have n2 := numL_le C.length (by omega)
  have hl : (frm.frB (twoF B C)).length ≤ 2000 := by
    have e : frm.frB (twoF B C) = [5] ++ (numB 2 ++ (([] ++ textB B) ++ textB C)) := rfl
    rw [e]
    simp only [List.length_append, List.length_cons, List.length_nil, textB_length, numB_length]
    have n3 := numL_le 2 (by decide)
    omega
  have hp : frm.partsB (twoF B C) = true := by
    show frm.partsB ⟨5, 0, 0, [], [B, C]⟩ = true
    unfold frm.partsB frm.numK frm.idsK frm.okL frm.okS
    simp [lB, lC]
  unfold frm.frOk
  rw [hp, decide_eq_true hl]
  rfl
theorem rdS_at2 {w : World} {a : Option Addr} {n c : Nat} {L : List (List Int)} (h : RdS w (.slice a n c) L) (i : Nat) (hi : i < L.length) : ∃ b o, a = some ⟨b, o, none⟩ ∧ b < w.heap.size ∧ ∃ s, w.cell? ⟨b, o + i, none⟩ = some s ∧ RdB w s (nthL L i) := by
  rcases h with ⟨a', c', he, _, rfl⟩ | ⟨b, o, c', he, h1, h2, h3, h4⟩
  · exact absurd hi (Nat.not_lt_zero _)
  · cases he
    exact ⟨b, o, rfl, h3, h4 i hi⟩
theorem rd_pairS {w : World} {g : Nat} {s1 s2 : Value} {B C : List Int} (hr : w.heap[g]? = some (.cells #[s1, s2] 26 (0, 0)) ∨ ∃ T, w.heap[g]? = some (.cells #[s1, s2] T (0, 0))) (h1 : RdB w s1 B) (h2 : RdB w s2 C) : RdS w (.slice (some ⟨g, 0, none⟩) 2 2) [B, C] := by
  obtain ⟨T, hr⟩ : ∃ T, w.heap[g]? = some (.cells #[s1, s2] T (0, 0)) := by
    rcases hr with h | h
    · exact ⟨_, h⟩
    · exact h
  refine .inr ⟨g, 0, 2, rfl, Nat.le_refl _, by decide, (Array.getElem?_eq_some_iff.1 hr).1, fun i hi => ?_⟩
  match i, hi with
  | 0, _ => exact ⟨s1, cell_of_row _ _ _ _ _ _ hr, h1⟩
  | 1, _ => exact ⟨s2, cell_of_row _ _ _ _ _ _ hr, h2⟩
/-- Other bytes are another operation. -/
theorem same_no {T q : Od} (fT : T.Fit) (fq : q.Fit) (hT : T.F.length = 32 * T.n) (hq : q.F.length = 32 * q.n) (cT : chkO T = 0) (cq : chkO q = 0) (hne : encO q ≠ encO T) : (sameM q T && sigE q T) = false := by
  cases h : (sameM q T && sigE q T) with
  | false => rfl
  | true =>
    exfalso
    rw [Bool.and_eq_true] at h
    obtain ⟨h1, h2⟩ := h
    have h3 := same_msg fq fT hq hT cq cT
    rw [h1] at h3
    have h4 : msgB q = msgB T := by
      unfold sameF at h3
      simpa using h3
    unfold sigE at h2
    rw [Bool.and_eq_true, decide_eq_true_eq, decide_eq_true_eq] at h2
    refine hne ?_
    unfold encO
    rw [h4, h2.1, h2.2]
theorem twoF_bytes (B C : List Int) (hB : Bytes B) (hC : Bytes C) (lB : B.length ≤ 400) (lC : C.length ≤ 400) : Bytes (frm.frB (twoF B C)) := by
  have e : frm.frB (twoF B C) = [5] ++ (numB 2 ++ (([] ++ textB B) ++ textB C)) := rfl
  rw [e]
  exact bytes_append _ _ (bytes_one (by decide)) (bytes_append _ _ (numB_bytes 2 (by decide)) (bytes_append _ _ (bytes_append _ _ bytes_nil (text_bytes B hB (by omega))) (text_bytes C hC (by omega))))
theorem neq_idT (D E : List Int) (hD : D.length = 32) (hE : E.length = 32) (w : World) : (binOp .neq 43 (.agg (u8s D)) (.agg (u8s E))).run Tryz.prog w = .ok (.bool (!decide (D = E))) w := by
  have he := run_equalArr (P := Tryz.prog) w 9998 43 5 32 Tryz.underlying43 Tryz.underlying5 (by kernel_rfl) D E hD hE
  simp [go_sem, he]
theorem eql_idT (D E : List Int) (hD : D.length = 32) (hE : E.length = 32) (w : World) : (binOp .eql 43 (.agg (u8s D)) (.agg (u8s E))).run Tryz.prog w = .ok (.bool (decide (D = E))) w := by
  have he := run_equalArr (P := Tryz.prog) w 9998 43 5 32 Tryz.underlying43 Tryz.underlying5 (by kernel_rfl) D E hD hE
  simp [go_sem, he]
theorem id_guardT : Tryz.prog.eqGuardType Tryz.prog.depth 43 = false := by kernel_rfl
theorem info_frameT : (Tryz.prog.info? 105).map (·.size) = some 4 := by kernel_rfl
theorem judgeOf_yesT (l : List Int) (bv : Value) (w : World) (hr : RdB w bv l) (hl : Bytes l) (hG0 : GlobW w) (o : Od) (hd : decO l = some o) (hv : vd l = 0) :
    Calls Tryz.prog 9 #[bv] w fun e w' => ∃ (a : Option Addr) (c : Nat), e = .returned (.tuple #[.agg (o.c (.slice a o.n c)), .agg (u8s (shaF l)), .int .u8 0]) ∧ RdI w' (.slice a o.n c) o.n o.F ∧ Below w.heap.size w w' := by
  refine (judgeOf_any l bv w hr hl hG0).mono ?_
  rintro e w' ⟨hb, ⟨h0, _⟩ | ⟨p, a, c, _, _, hq, _, he, hi⟩⟩
  · exact absurd hv h0
  · rw [hd] at hq
    obtain rfl := Option.some.inj hq
    exact ⟨a, c, he, heldI_nowT hi, hb⟩
theorem judgeOf_noT (l : List Int) (bv : Value) (w : World) (hr : RdB w bv l) (hl : Bytes l) (hG0 : GlobW w) (h0 : vd l ≠ 0) :
    Calls Tryz.prog 9 #[bv] w fun e w' => ∃ (a : Option Addr) (c : Nat), e = .returned (.tuple #[.agg (zO.c (.slice a zO.n c)), .agg (u8s (zerosB 32)), .int .u8 (vd l)]) ∧ RdI w' (.slice a zO.n c) zO.n zO.F ∧ Below w.heap.size w w' := by
  refine (judgeOf_any l bv w hr hl hG0).mono ?_
  rintro e w' ⟨hb, ⟨_, he⟩ | ⟨o, a, c, hz, _⟩⟩
  · exact ⟨none, 0, he, .inl ⟨none, 0, rfl, fun _ => rfl, rfl, rfl⟩, hb⟩
  · exact absurd hz h0
end Go.Proofs.YtfaojjleapenaabGreatDoor.wir.val.top
namespace Go.Proofs.YtfaojjleapenaabGreatDoor.wir.val.top
open Go.RowKit Go.YtfaojjleapenaabGreatDoor
set_option linter.unusedVariables false
set_option maxHeartbeats 16000000 in
set_option maxRecDepth 100000 in
theorem framed08_1 (T : Od) (fT : T.Fit) (hF : T.F.length = 32 * T.n) (cT : chkO T = 0) (vT : verO T = 0) (C : List Int) (hC : Bytes C) (hlen : C.length = (encO T).length) (q : Od) (Y : List Int) (V : Int) (hY : Y.length = 32) (hVd : vd C = V)
    (hO2 : ∀ (wz : World) (v : Value), RdB wz v C → GlobW wz → Calls Tryz.prog 9 #[v] wz fun e w' => ∃ (a : Option Addr) (c : Nat), e = .returned (.tuple #[.agg (q.c (.slice a q.n c)), .agg (u8s Y), .int .u8 V]) ∧ RdI w' (.slice a q.n c) q.n q.F ∧ Below wz.heap.size wz w')
    (hV : V = 0) (hY1 : Y = shaF (encO T)) (hBC : sameF (encO T) C = true) (pv bv cv : Value) (w : World) (hp : RdI w pv T.n T.F) (hb : RdB w bv (encO T)) (hcv : RdB w cv C) (hG0 : GlobW w) :
    Calls Tryz.prog 30 #[.agg (T.c pv), .agg (u8s (shaF (encO T))), bv, cv] w fun e w' => e = .returned (.bool true) ∧ Below w.heap.size w w' := by
  obtain ⟨v0, lB, bB⟩ := vd_good fT hF cT vT
  have hd := decO_enc fT hF cT
  have lC : C.length ≤ 400 := by omega
  have f1 := Lib.hid (fun (wz : World) (ba ca : Option Addr) (bn bc cn cc : Nat) (h1 : RdB wz (.slice ba bn bc) (encO T)) (h2 : RdB wz (.slice ca cn cc) C) => (show Calls Tryz.prog 58 #[.agg #[.int .u8 5, .int .u64 0, .slice none 0 0, .slice (some ⟨wz.heap.size, 0, none⟩) 2 2]] (wz.alloc (.cells #[.slice ba bn bc, .slice ca cn cc] 22)) fun e w' => ∃ sv, e = .returned (.tuple #[sv, .int .i64 0]) ∧ RdB w' sv (frm.frB (twoF (encO T) C)) ∧ Below wz.heap.size wz w' from by
    have hal := below_a wz (.cells #[.slice ba bn bc, .slice ca cn cc] 22)
    refine (frm.frEncode_ok (twoF (encO T) C) (twoF_fit _ _ bB hC lB lC) (twoF_ok _ _ lB lC) (.slice none 0 0) (.slice (some ⟨wz.heap.size, 0, none⟩) 2 2) _ (.inl ⟨none, 0, rfl, fun _ => rfl, rfl, rfl⟩) (rdS_frm (rd_pairS (.inr ⟨_, heap_alloc_new wz _⟩) (h1.mono hal) (h2.mono hal)))).mono ?_
    rintro e w' ⟨sv, he, ho, hbb⟩
    exact ⟨sv, he, ho.rd, hal.trans (hbb.mono (by simp))⟩))
  have f2 := Lib.hid (fun (wz : World) (v : Value) (h : RdB wz v (frm.frB (twoF (encO T) C))) => (show Calls Tryz.prog 59 #[v] wz fun e w' => ∃ (ia : Option Addr) (ic : Nat) (oa : Option Addr) (oc : Nat), e = .returned (.tuple #[.agg #[.int .u8 5, .int .u64 0, .slice ia 0 ic, .slice oa 2 oc], .int .i64 0]) ∧ RdS w' (.slice oa 2 oc) [encO T, C] ∧ Below wz.heap.size wz w' from by
    refine (frm.parse_any _ v wz h (twoF_bytes _ _ bB hC lB lC)).mono ?_
    rintro e w' ⟨hbb, _, h3⟩
    obtain ⟨iv, ov, he, hi, ho⟩ := h3 _ (frm.parse_fr (twoF_fit _ _ bB hC lB lC) (twoF_ok _ _ lB lC))
    have hi2 : RdI w' iv 0 [] := heldI_nowT hi
    have ho2 : RdS w' ov [encO T, C] := ho w' (fun _ _ _ => rfl) (Nat.le_refl _)
    obtain ⟨ia, ic, rfl⟩ := hi2.slice
    obtain ⟨oa, oc, rfl⟩ := ho2.slice
    exact ⟨ia, ic, oa, oc, he, ho2, hbb⟩))
  have f3 := Lib.hid (fun (wz : World) (a : Option Addr) (c : Nat) (h : RdS wz (.slice a 2 c) [encO T, C]) (hg : GlobW wz) => (show Calls Tryz.prog 6 #[.slice a 2 c] wz fun e w' => ∃ g, e = .returned (.tuple #[.slice (some ⟨g, 0, none⟩) 2 2, .int .i64 0]) ∧ w'.heap[g]? = some (.cells #[.int .u8 0, .int .u8 V] 5 (0, 0)) ∧ Below wz.heap.size wz w' from by
    refine (many_any [encO T, C] (.slice a 2 c) wz h (fun i => by rw [nthL_two]; split; exact bB; split; exact hC; exact bytes_nil) (by show 2 ≤ 60; decide) hg).mono ?_
    rintro e w' ⟨he, h1, h2⟩
    refine ⟨_, he, ?_, h2⟩
    rw [h1]
    show some (Obj.cells #[.int .u8 (vd (encO T)), .int .u8 (vd C)] 5 (0, 0)) = _
    rw [v0, hVd]))
  have f4 := Lib.hid (fun (wz : World) (v : Value) (h : RdB wz v (encO T)) (hg : GlobW wz) => judgeOf_yesT (encO T) v wz h bB hg T hd v0)
  have f5 := Lib.hid hO2
  have f6 := Lib.hid (fun (wz : World) (v1 v2 : Value) (h : RdI wz v1 T.n T.F) (h2 : RdI wz v2 T.n T.F) => sameO_yes T (Nat.le_trans (chk_zero cT).1 (by decide)) v1 v2 wz h h2)
  have f7 := Lib.hid (fun (wz : World) (va vb : Value) (h1 : RdB wz va (encO T)) (h2 : RdB wz vb C) => (same_any va vb (encO T) C wz (by omega) h1 h2).mono (R' := fun e w' => e = .returned (.bool true) ∧ Below wz.heap.size wz w') (fun e w' ⟨a1, a2⟩ => ⟨by rw [a1, hBC], a2.below (Below.refl _ _)⟩))
  have hDl : (shaF (encO T)).length = 32 := shaF_length _
  subst hY1
  subst hV
  generalize shaF (encO T) = D at *
  generalize frm.frB (twoF (encO T) C) = FB at *
  have di := Lib.hid (show (Tryz.prog.info? 43).map (·.size) = some (u8s D).size by rw [u8s_size, hDl]; kernel_rfl)
  have ds := Lib.hid (show ∀ x : Array Value, x = u8s (zerosB 32) → x.size = (u8s D).size from fun x hx => by rw [hx, u8s_size, u8s_size, hDl, zerosB_length])
  have hneq := Lib.hid (show ∀ wz, (binOp .neq 43 (.agg (u8s D)) (.agg (u8s D))).run Tryz.prog wz = .ok (.bool false) wz from fun wz => by rw [neq_idT D D hDl hDl wz, decide_eq_true rfl]; rfl)
  have heq := Lib.hid (show ∀ wz, (binOp .eql 43 (.agg (u8s D)) (.agg (u8s D))).run Tryz.prog wz = .ok (.bool true) wz from fun wz => by rw [eql_idT D D hDl hDl wz, decide_eq_true rfl])
  obtain ⟨pa, pc, rfl⟩ := hp.slice
  obtain ⟨ba, bc, rfl⟩ := hb.slice
  obtain ⟨ca, cc, rfl⟩ := hcv.slice
  rw [hlen] at hcv ⊢
  obtain ⟨W, hW⟩ : ∃ W, W = (w.alloc (.cells (T.c (.slice pa T.n pc)) 41)).alloc (.cells (u8s D) 43) := ⟨_, rfl⟩
  have hS0 := Lib.hid (show Below w.heap.size w W by rw [hW]; exact ((Below.refl w.heap.size w).alloc (Nat.le_refl _) _).alloc (by simp) _)
  have rT := Lib.hid (show W.heap[w.heap.size]? = some (.cells (T.c (.slice pa T.n pc)) 41 (0, 0)) by rw [hW]; exact rowA w _ _)
  have rid := Lib.hid (show W.heap[w.heap.size + 1]? = some (.cells (u8s D) 43 (0, 0)) by rw [hW]; exact hn2 w _ _)
  have xT := Lib.hid (hp.mono hS0.out)
  have xB := Lib.hid (hb.mono hS0.out)
  have xC := Lib.hid (hcv.mono hS0.out)
  have hG := Lib.hid (hG0.mono hS0.out)
  obtain ⟨N, hN⟩ : ∃ N, (encO T).length = N := ⟨_, rfl⟩
  rw [hN] at xB xC ⊢
  have hN := Lib.hid hN
  generalize encO T = B at *
  clear hp hb hcv hG0 v0 lB bB hd lC hC hlen hY hVd hO2 hDl fT hF cT vT hBC
  go_enter Tryz.func30, Tryz.ntmps30
  go_upto_region 1 with fail
  rw [← hW]
  clear hW
  go_upto_region 2 with (go_at_call 58; (with_reducible refine (f1.out _ _ _ _ _ _ _ xB.out xC.out).mono ?_); rintro e9 w4 ⟨sv, rfl, q1, q2⟩; (try replace rT := Lib.hid (rowB rT.out q2 (Array.getElem?_eq_some_iff.1 rT.out).1)); (try replace rid := Lib.hid (rowB rid.out q2 (Array.getElem?_eq_some_iff.1 rid.out).1)); (try replace xT := Lib.hid (xT.out.mono q2)); (try replace xB := Lib.hid (xB.out.mono q2)); (try replace xC := Lib.hid (xC.out.mono q2)); (try replace hG := Lib.hid (hG.out.mono q2)); replace hS0 := Lib.hid (hS0.out.trans (Below.mono q2 hS0.out.size)); have xF := Lib.hid q1; clear q1; clear q2)
  go_upto_region 3 with (first
    | (go_at_call 59; (with_reducible refine (f2.out _ _ xF.out).mono ?_); rintro e9 w4 ⟨ia, ic, oa, oc, rfl, q1, q2⟩; (try replace rT := Lib.hid (rowB rT.out q2 (Array.getElem?_eq_some_iff.1 rT.out).1)); (try replace rid := Lib.hid (rowB rid.out q2 (Array.getElem?_eq_some_iff.1 rid.out).1)); (try replace xT := Lib.hid (xT.out.mono q2)); (try replace xB := Lib.hid (xB.out.mono q2)); (try replace xC := Lib.hid (xC.out.mono q2)); (try replace hG := Lib.hid (hG.out.mono q2)); (try replace xF := Lib.hid (xF.out.mono q2)); replace hS0 := Lib.hid (hS0.out.trans (Below.mono q2 hS0.out.size)); have xS := Lib.hid q1; clear q1; clear q2)
    | (refine storeNew _ rfl 105 _ _ rfl #[.int .u8 5, .int .u64 0, .slice ia 0 ic, .slice oa 2 oc] 105 rfl rfl info_frameT rfl (by simp [Value.oneCell']) ?_; intro wx hrx hbx; (try replace rT := Lib.hid (rowB rT.out hbx (Array.getElem?_eq_some_iff.1 rT.out).1)); (try replace rid := Lib.hid (rowB rid.out hbx (Array.getElem?_eq_some_iff.1 rid.out).1)); (try replace xT := Lib.hid (xT.out.mono hbx)); (try replace xB := Lib.hid (xB.out.mono hbx)); (try replace xC := Lib.hid (xC.out.mono hbx)); (try replace hG := Lib.hid (hG.out.mono hbx)); (try replace xF := Lib.hid (xF.out.mono hbx)); (try replace xS := Lib.hid (xS.out.mono hbx)); replace hS0 := Lib.hid (hS0.out.trans (Below.mono hbx hS0.out.size)); have rF := Lib.hid hrx; clear hrx hbx))
  clear xF
  have c3 := cell_of_row _ _ 3 _ _ _ rF.out
  replace c3 : wx.cell? ⟨_, 3, none⟩ = some (.slice oa 2 oc) := c3
  go_upto_region 6 with (go_at_call 6; (with_reducible refine (f3.out _ _ _ xS.out hG.out).mono ?_); rintro e9 w4 ⟨gv, rfl, q1, q2⟩; (try replace rT := Lib.hid (rowB rT.out q2 (Array.getElem?_eq_some_iff.1 rT.out).1)); (try replace rid := Lib.hid (rowB rid.out q2 (Array.getElem?_eq_some_iff.1 rid.out).1)); (try replace rF := Lib.hid (rowB rF.out q2 (Array.getElem?_eq_some_iff.1 rF.out).1)); (try replace xT := Lib.hid (xT.out.mono q2)); (try replace xB := Lib.hid (xB.out.mono q2)); (try replace xC := Lib.hid (xC.out.mono q2)); (try replace hG := Lib.hid (hG.out.mono q2)); (try replace xS := Lib.hid (xS.out.mono q2)); replace hS0 := Lib.hid (hS0.out.trans (Below.mono q2 hS0.out.size)); have rv := Lib.hid q1; clear q1; clear q2)
  clear c3
  have c3 := cell_of_row _ _ 3 _ _ _ rF.out
  replace c3 : w4.cell? ⟨_, 3, none⟩ = some (.slice oa 2 oc) := c3
  obtain ⟨bs, os, hoa, hbs, s0, hs0, rs0⟩ := rdS_at2 xS.out 0 (by show 0 < 2; decide)
  subst hoa
  rw [Nat.add_zero] at hs0
  replace rs0 : RdB w4 s0 B := rs0
  obtain ⟨sa, sc, rfl⟩ := rs0.slice
  rw [hN.out] at rs0 hs0
  have rs0 := Lib.hid rs0
  clear xS hbs
  go_upto_region 7 with (first
    | (go_at_call 9; (with_reducible refine (f4.out _ _ rs0.out hG.out).mono ?_); rintro e9 w4 ⟨ya, yc, rfl, q1, q2⟩; (try replace rT := Lib.hid (rowB rT.out q2 (Array.getElem?_eq_some_iff.1 rT.out).1)); (try replace rid := Lib.hid (rowB rid.out q2 (Array.getElem?_eq_some_iff.1 rid.out).1)); (try replace rF := Lib.hid (rowB rF.out q2 (Array.getElem?_eq_some_iff.1 rF.out).1)); (try replace rv := Lib.hid (rowB rv.out q2 (Array.getElem?_eq_some_iff.1 rv.out).1)); (try replace xT := Lib.hid (xT.out.mono q2)); (try replace xB := Lib.hid (xB.out.mono q2)); (try replace xC := Lib.hid (xC.out.mono q2)); (try replace hG := Lib.hid (hG.out.mono q2)); (try replace rs0 := Lib.hid (rs0.out.mono q2)); replace hS0 := Lib.hid (hS0.out.trans (Below.mono q2 hS0.out.size)); have xO := Lib.hid q1; clear q1 c3 hs0; clear q2)
    | (refine wpList_store_row rfl 41 _ _ rfl w4.heap.size (T.c (.slice ya T.n yc)) rfl rfl 41 _ (rowA w4 _ _) info_op rfl (op_one T ya T.n yc) ?_)
    | (refine storeOver _ (w4.heap.size + 1) _ rfl 43 _ _ rfl (u8s D) 43 ((setRow_other _ w4.heap.size (w4.heap.size + 1) _ (by omega)).trans (hn2 w4 _ _)) rfl rfl di.out (ds.out _ (by kernel_rfl)) (u8s_one _) ?_; intro wx hrx hbx0; have hbx := Lib.hid (show Below w4.heap.size w4 wx from (below_setRow' ((below_a w4 _).alloc (by simp) _) (Nat.le_refl _) _).trans (hbx0.mono (Nat.le_succ _))); (try replace rT := Lib.hid (rowB rT.out hbx.out (Array.getElem?_eq_some_iff.1 rT.out).1)); (try replace rid := Lib.hid (rowB rid.out hbx.out (Array.getElem?_eq_some_iff.1 rid.out).1)); (try replace rF := Lib.hid (rowB rF.out hbx.out (Array.getElem?_eq_some_iff.1 rF.out).1)); (try replace rv := Lib.hid (rowB rv.out hbx.out (Array.getElem?_eq_some_iff.1 rv.out).1)); (try replace xT := Lib.hid (xT.out.mono hbx.out)); (try replace xB := Lib.hid (xB.out.mono hbx.out)); (try replace xC := Lib.hid (xC.out.mono hbx.out)); (try replace hG := Lib.hid (hG.out.mono hbx.out)); (try replace rs0 := Lib.hid (rs0.out.mono hbx.out)); (try replace xO := Lib.hid (xO.out.mono hbx.out)); replace hS0 := Lib.hid (hS0.out.trans (Below.mono hbx.out hS0.out.size)); have rO := Lib.hid ((hbx0.block w4.heap.size (Nat.lt_succ_self _)).trans (setRow_heap _ _ _ (T.c (.slice ya T.n yc)) _ _ (rowA w4 _ _))); have rI := Lib.hid hrx; clear hrx hbx0 hbx))
  go_upto_region 8 with (first
    | (go_at_call 9; (with_reducible refine (f5.out _ _ xC.out hG.out).mono ?_); rintro e9 w4 ⟨za, zc, rfl, q1, q2⟩; (try replace rT := Lib.hid (rowB rT.out q2 (Array.getElem?_eq_some_iff.1 rT.out).1)); (try replace rid := Lib.hid (rowB rid.out q2 (Array.getElem?_eq_some_iff.1 rid.out).1)); (try replace rF := Lib.hid (rowB rF.out q2 (Array.getElem?_eq_some_iff.1 rF.out).1)); (try replace rv := Lib.hid (rowB rv.out q2 (Array.getElem?_eq_some_iff.1 rv.out).1)); (try replace rO := Lib.hid (rowB rO.out q2 (Array.getElem?_eq_some_iff.1 rO.out).1)); (try replace rI := Lib.hid (rowB rI.out q2 (Array.getElem?_eq_some_iff.1 rI.out).1)); (try replace xT := Lib.hid (xT.out.mono q2)); (try replace xB := Lib.hid (xB.out.mono q2)); (try replace xC := Lib.hid (xC.out.mono q2)); (try replace hG := Lib.hid (hG.out.mono q2)); (try replace rs0 := Lib.hid (rs0.out.mono q2)); (try replace xO := Lib.hid (xO.out.mono q2)); replace hS0 := Lib.hid (hS0.out.trans (Below.mono q2 hS0.out.size)); have xQ := Lib.hid q1; clear q1; clear q2)
    | (refine wpList_store_row rfl 41 _ _ rfl w4.heap.size (q.c (.slice za q.n zc)) rfl rfl 41 _ (rowA w4 _ _) info_op rfl (op_one q za q.n zc) ?_)
    | (refine storeOver _ (w4.heap.size + 1) _ rfl 43 _ _ rfl (u8s D) 43 ((setRow_other _ w4.heap.size (w4.heap.size + 1) _ (by omega)).trans (hn2 w4 _ _)) rfl rfl di.out (ds.out _ (by kernel_rfl)) (u8s_one _) ?_; intro wx hrx hbx0; have hbx := Lib.hid (show Below w4.heap.size w4 wx from (below_setRow' ((below_a w4 _).alloc (by simp) _) (Nat.le_refl _) _).trans (hbx0.mono (Nat.le_succ _))); (try replace rT := Lib.hid (rowB rT.out hbx.out (Array.getElem?_eq_some_iff.1 rT.out).1)); (try replace rid := Lib.hid (rowB rid.out hbx.out (Array.getElem?_eq_some_iff.1 rid.out).1)); (try replace rF := Lib.hid (rowB rF.out hbx.out (Array.getElem?_eq_some_iff.1 rF.out).1)); (try replace rv := Lib.hid (rowB rv.out hbx.out (Array.getElem?_eq_some_iff.1 rv.out).1)); (try replace rO := Lib.hid (rowB rO.out hbx.out (Array.getElem?_eq_some_iff.1 rO.out).1)); (try replace rI := Lib.hid (rowB rI.out hbx.out (Array.getElem?_eq_some_iff.1 rI.out).1)); (try replace xT := Lib.hid (xT.out.mono hbx.out)); (try replace xB := Lib.hid (xB.out.mono hbx.out)); (try replace xC := Lib.hid (xC.out.mono hbx.out)); (try replace hG := Lib.hid (hG.out.mono hbx.out)); (try replace rs0 := Lib.hid (rs0.out.mono hbx.out)); (try replace xO := Lib.hid (xO.out.mono hbx.out)); (try replace xQ := Lib.hid (xQ.out.mono hbx.out)); replace hS0 := Lib.hid (hS0.out.trans (Below.mono hbx.out hS0.out.size)); have rQ := Lib.hid ((hbx0.block w4.heap.size (Nat.lt_succ_self _)).trans (setRow_heap _ _ _ (q.c (.slice za q.n zc)) _ _ (rowA w4 _ _))); have rY := Lib.hid hrx; clear hrx hbx0 hbx))
  have v0 : wx.cell? ⟨gv, 0, none⟩ = some (.int .u8 0) := cell_of_row _ _ 0 _ _ _ rv.out
  have v1 : wx.cell? ⟨gv, 1, none⟩ = some (.int .u8 0) := cell_of_row _ _ 1 _ _ _ rv.out
  go_upto_region 10 with (first
    | (refine loadR 43 _ rfl _ rfl rfl 43 (u8s D) (0, 0) _ rI.out Tryz.underlying43 rfl di.out ?_)
    | (refine loadR 43 _ rfl _ rfl rfl 43 (u8s D) (0, 0) _ rid.out Tryz.underlying43 rfl di.out ?_)
    | (refine neqR 43 _ _ rfl (u8s D) (u8s D) rfl rfl rfl id_guardT false (hneq.out _) ?_)
    | (refine loadR 41 _ rfl _ rfl rfl 41 (T.c (.slice ya T.n yc)) (0, 0) _ rO.out Tryz.underlying41 rfl info_op ?_)
    | (refine loadR 41 _ rfl _ rfl rfl 41 (T.c (.slice pa T.n pc)) (0, 0) _ rT.out Tryz.underlying41 rfl info_op ?_)
    | (go_at_call 11; (with_reducible refine (f6.out _ _ _ xO.out xT.out).mono ?_); rintro e9 w4 ⟨rfl, q2⟩; (try replace rT := Lib.hid (rowB rT.out q2 (Array.getElem?_eq_some_iff.1 rT.out).1)); (try replace rid := Lib.hid (rowB rid.out q2 (Array.getElem?_eq_some_iff.1 rid.out).1)); (try replace rF := Lib.hid (rowB rF.out q2 (Array.getElem?_eq_some_iff.1 rF.out).1)); (try replace rv := Lib.hid (rowB rv.out q2 (Array.getElem?_eq_some_iff.1 rv.out).1)); (try replace rO := Lib.hid (rowB rO.out q2 (Array.getElem?_eq_some_iff.1 rO.out).1)); (try replace rI := Lib.hid (rowB rI.out q2 (Array.getElem?_eq_some_iff.1 rI.out).1)); (try replace rQ := Lib.hid (rowB rQ.out q2 (Array.getElem?_eq_some_iff.1 rQ.out).1)); (try replace rY := Lib.hid (rowB rY.out q2 (Array.getElem?_eq_some_iff.1 rY.out).1)); (try replace xT := Lib.hid (xT.out.mono q2)); (try replace xB := Lib.hid (xB.out.mono q2)); (try replace xC := Lib.hid (xC.out.mono q2)); (try replace hG := Lib.hid (hG.out.mono q2)); (try replace rs0 := Lib.hid (rs0.out.mono q2)); (try replace xO := Lib.hid (xO.out.mono q2)); (try replace xQ := Lib.hid (xQ.out.mono q2)); replace hS0 := Lib.hid (hS0.out.trans (Below.mono q2 hS0.out.size)); clear v0 v1; clear q2))
  go_wp2_with (first
    | (go_at_call 10; (with_reducible refine (f7.out _ _ _ xB.out xC.out).mono ?_); rintro e9 w4 ⟨rfl, q2⟩; (try replace rT := Lib.hid (rowB rT.out q2 (Array.getElem?_eq_some_iff.1 rT.out).1)); (try replace rid := Lib.hid (rowB rid.out q2 (Array.getElem?_eq_some_iff.1 rid.out).1)); (try replace rF := Lib.hid (rowB rF.out q2 (Array.getElem?_eq_some_iff.1 rF.out).1)); (try replace rv := Lib.hid (rowB rv.out q2 (Array.getElem?_eq_some_iff.1 rv.out).1)); (try replace rO := Lib.hid (rowB rO.out q2 (Array.getElem?_eq_some_iff.1 rO.out).1)); (try replace rI := Lib.hid (rowB rI.out q2 (Array.getElem?_eq_some_iff.1 rI.out).1)); (try replace rQ := Lib.hid (rowB rQ.out q2 (Array.getElem?_eq_some_iff.1 rQ.out).1)); (try replace rY := Lib.hid (rowB rY.out q2 (Array.getElem?_eq_some_iff.1 rY.out).1)); (try replace xT := Lib.hid (xT.out.mono q2)); (try replace xB := Lib.hid (xB.out.mono q2)); (try replace xC := Lib.hid (xC.out.mono q2)); (try replace hG := Lib.hid (hG.out.mono q2)); (try replace rs0 := Lib.hid (rs0.out.mono q2)); (try replace xO := Lib.hid (xO.out.mono q2)); (try replace xQ := Lib.hid (xQ.out.mono q2)); replace hS0 := Lib.hid (hS0.out.trans (Below.mono q2 hS0.out.size)); clear q2)
    | (refine loadR 43 _ rfl _ rfl rfl 43 (u8s D) (0, 0) _ rY.out Tryz.underlying43 rfl di.out ?_)
    | (refine loadR 43 _ rfl _ rfl rfl 43 (u8s D) (0, 0) _ rid.out Tryz.underlying43 rfl di.out ?_)
    | (refine eqlR 43 _ _ rfl (u8s D) (u8s D) rfl rfl rfl id_guardT true (heq.out _) ?_))
  go_ret
  exact ⟨rfl, hS0.out⟩
end Go.Proofs.YtfaojjleapenaabGreatDoor.wir.val.top
namespace Go.Proofs.YtfaojjleapenaabGreatDoor.wir.val.top
open Go.RowKit Go.YtfaojjleapenaabGreatDoor
set_option linter.unusedVariables false
set_option maxHeartbeats 16000000 in
set_option maxRecDepth 100000 in
theorem framed08_2 (T : Od) (fT : T.Fit) (hF : T.F.length = 32 * T.n) (cT : chkO T = 0) (vT : verO T = 0) (C : List Int) (hC : Bytes C) (hlen : C.length = (encO T).length) (q : Od) (Y : List Int) (V : Int) (hY : Y.length = 32) (hVd : vd C = V)
    (hO2 : ∀ (wz : World) (v : Value), RdB wz v C → GlobW wz → Calls Tryz.prog 9 #[v] wz fun e w' => ∃ (a : Option Addr) (c : Nat), e = .returned (.tuple #[.agg (q.c (.slice a q.n c)), .agg (u8s Y), .int .u8 V]) ∧ RdI w' (.slice a q.n c) q.n q.F ∧ Below wz.heap.size wz w')
    (hV : V ≠ 0) (hBC : sameF (encO T) C = false) (pv bv cv : Value) (w : World) (hp : RdI w pv T.n T.F) (hb : RdB w bv (encO T)) (hcv : RdB w cv C) (hG0 : GlobW w) :
    Calls Tryz.prog 30 #[.agg (T.c pv), .agg (u8s (shaF (encO T))), bv, cv] w fun e w' => e = .returned (.bool true) ∧ Below w.heap.size w w' := by
  obtain ⟨v0, lB, bB⟩ := vd_good fT hF cT vT
  have hd := decO_enc fT hF cT
  have lC : C.length ≤ 400 := by omega
  have f1 := Lib.hid (fun (wz : World) (ba ca : Option Addr) (bn bc cn cc : Nat) (h1 : RdB wz (.slice ba bn bc) (encO T)) (h2 : RdB wz (.slice ca cn cc) C) => (show Calls Tryz.prog 58 #[.agg #[.int .u8 5, .int .u64 0, .slice none 0 0, .slice (some ⟨wz.heap.size, 0, none⟩) 2 2]] (wz.alloc (.cells #[.slice ba bn bc, .slice ca cn cc] 22)) fun e w' => ∃ sv, e = .returned (.tuple #[sv, .int .i64 0]) ∧ RdB w' sv (frm.frB (twoF (encO T) C)) ∧ Below wz.heap.size wz w' from by
    have hal := below_a wz (.cells #[.slice ba bn bc, .slice ca cn cc] 22)
    refine (frm.frEncode_ok (twoF (encO T) C) (twoF_fit _ _ bB hC lB lC) (twoF_ok _ _ lB lC) (.slice none 0 0) (.slice (some ⟨wz.heap.size, 0, none⟩) 2 2) _ (.inl ⟨none, 0, rfl, fun _ => rfl, rfl, rfl⟩) (rdS_frm (rd_pairS (.inr ⟨_, heap_alloc_new wz _⟩) (h1.mono hal) (h2.mono hal)))).mono ?_
    rintro e w' ⟨sv, he, ho, hbb⟩
    exact ⟨sv, he, ho.rd, hal.trans (hbb.mono (by simp))⟩))
  have f2 := Lib.hid (fun (wz : World) (v : Value) (h : RdB wz v (frm.frB (twoF (encO T) C))) => (show Calls Tryz.prog 59 #[v] wz fun e w' => ∃ (ia : Option Addr) (ic : Nat) (oa : Option Addr) (oc : Nat), e = .returned (.tuple #[.agg #[.int .u8 5, .int .u64 0, .slice ia 0 ic, .slice oa 2 oc], .int .i64 0]) ∧ RdS w' (.slice oa 2 oc) [encO T, C] ∧ Below wz.heap.size wz w' from by
    refine (frm.parse_any _ v wz h (twoF_bytes _ _ bB hC lB lC)).mono ?_
    rintro e w' ⟨hbb, _, h3⟩
    obtain ⟨iv, ov, he, hi, ho⟩ := h3 _ (frm.parse_fr (twoF_fit _ _ bB hC lB lC) (twoF_ok _ _ lB lC))
    have hi2 : RdI w' iv 0 [] := heldI_nowT hi
    have ho2 : RdS w' ov [encO T, C] := ho w' (fun _ _ _ => rfl) (Nat.le_refl _)
    obtain ⟨ia, ic, rfl⟩ := hi2.slice
    obtain ⟨oa, oc, rfl⟩ := ho2.slice
    exact ⟨ia, ic, oa, oc, he, ho2, hbb⟩))
  have f3 := Lib.hid (fun (wz : World) (a : Option Addr) (c : Nat) (h : RdS wz (.slice a 2 c) [encO T, C]) (hg : GlobW wz) => (show Calls Tryz.prog 6 #[.slice a 2 c] wz fun e w' => ∃ g, e = .returned (.tuple #[.slice (some ⟨g, 0, none⟩) 2 2, .int .i64 0]) ∧ w'.heap[g]? = some (.cells #[.int .u8 0, .int .u8 V] 5 (0, 0)) ∧ Below wz.heap.size wz w' from by
    refine (many_any [encO T, C] (.slice a 2 c) wz h (fun i => by rw [nthL_two]; split; exact bB; split; exact hC; exact bytes_nil) (by show 2 ≤ 60; decide) hg).mono ?_
    rintro e w' ⟨he, h1, h2⟩
    refine ⟨_, he, ?_, h2⟩
    rw [h1]
    show some (Obj.cells #[.int .u8 (vd (encO T)), .int .u8 (vd C)] 5 (0, 0)) = _
    rw [v0, hVd]))
  have f4 := Lib.hid (fun (wz : World) (v : Value) (h : RdB wz v (encO T)) (hg : GlobW wz) => judgeOf_yesT (encO T) v wz h bB hg T hd v0)
  have f5 := Lib.hid hO2
  have f6 := Lib.hid (fun (wz : World) (v1 v2 : Value) (h : RdI wz v1 T.n T.F) (h2 : RdI wz v2 T.n T.F) => sameO_yes T (Nat.le_trans (chk_zero cT).1 (by decide)) v1 v2 wz h h2)
  have f7 := Lib.hid (fun (wz : World) (va vb : Value) (h1 : RdB wz va (encO T)) (h2 : RdB wz vb C) => (same_any va vb (encO T) C wz (by omega) h1 h2).mono (R' := fun e w' => e = .returned (.bool false) ∧ Below wz.heap.size wz w') (fun e w' ⟨a1, a2⟩ => ⟨by rw [a1, hBC], a2.below (Below.refl _ _)⟩))
  have hDl : (shaF (encO T)).length = 32 := shaF_length _
  have t1 : (V != 0) = true := by simpa using hV
  have t2 : (V == 0) = false := by simpa using hV
  generalize shaF (encO T) = D at *
  generalize frm.frB (twoF (encO T) C) = FB at *
  have di := Lib.hid (show (Tryz.prog.info? 43).map (·.size) = some (u8s D).size by rw [u8s_size, hDl]; kernel_rfl)
  have ds := Lib.hid (show ∀ x : Array Value, x = u8s (zerosB 32) → x.size = (u8s D).size from fun x hx => by rw [hx, u8s_size, u8s_size, hDl, zerosB_length])
  have di2 := Lib.hid (show (Tryz.prog.info? 43).map (·.size) = some (u8s Y).size by rw [u8s_size, hY]; kernel_rfl)
  have ds2 := Lib.hid (show ∀ x : Array Value, x = u8s (zerosB 32) → x.size = (u8s Y).size from fun x hx => by rw [hx, u8s_size, u8s_size, hY, zerosB_length])
  have hneq := Lib.hid (show ∀ wz, (binOp .neq 43 (.agg (u8s D)) (.agg (u8s D))).run Tryz.prog wz = .ok (.bool false) wz from fun wz => by rw [neq_idT D D hDl hDl wz, decide_eq_true rfl]; rfl)
  obtain ⟨pa, pc, rfl⟩ := hp.slice
  obtain ⟨ba, bc, rfl⟩ := hb.slice
  obtain ⟨ca, cc, rfl⟩ := hcv.slice
  rw [hlen] at hcv ⊢
  obtain ⟨W, hW⟩ : ∃ W, W = (w.alloc (.cells (T.c (.slice pa T.n pc)) 41)).alloc (.cells (u8s D) 43) := ⟨_, rfl⟩
  have hS0 := Lib.hid (show Below w.heap.size w W by rw [hW]; exact ((Below.refl w.heap.size w).alloc (Nat.le_refl _) _).alloc (by simp) _)
  have rT := Lib.hid (show W.heap[w.heap.size]? = some (.cells (T.c (.slice pa T.n pc)) 41 (0, 0)) by rw [hW]; exact rowA w _ _)
  have rid := Lib.hid (show W.heap[w.heap.size + 1]? = some (.cells (u8s D) 43 (0, 0)) by rw [hW]; exact hn2 w _ _)
  have xT := Lib.hid (hp.mono hS0.out)
  have xB := Lib.hid (hb.mono hS0.out)
  have xC := Lib.hid (hcv.mono hS0.out)
  have hG := Lib.hid (hG0.mono hS0.out)
  obtain ⟨N, hN⟩ : ∃ N, (encO T).length = N := ⟨_, rfl⟩
  rw [hN] at xB xC ⊢
  have hN := Lib.hid hN
  generalize encO T = B at *
  clear hp hb hcv hG0 v0 lB bB hd lC hC hlen hY hVd hO2 hDl fT hF cT vT hBC hV
  go_enter Tryz.func30, Tryz.ntmps30
  go_upto_region 1 with fail
  rw [← hW]
  clear hW
  go_upto_region 2 with (go_at_call 58; (with_reducible refine (f1.out _ _ _ _ _ _ _ xB.out xC.out).mono ?_); rintro e9 w4 ⟨sv, rfl, q1, q2⟩; (try replace rT := Lib.hid (rowB rT.out q2 (Array.getElem?_eq_some_iff.1 rT.out).1)); (try replace rid := Lib.hid (rowB rid.out q2 (Array.getElem?_eq_some_iff.1 rid.out).1)); (try replace xT := Lib.hid (xT.out.mono q2)); (try replace xB := Lib.hid (xB.out.mono q2)); (try replace xC := Lib.hid (xC.out.mono q2)); (try replace hG := Lib.hid (hG.out.mono q2)); replace hS0 := Lib.hid (hS0.out.trans (Below.mono q2 hS0.out.size)); have xF := Lib.hid q1; clear q1; clear q2)
  go_upto_region 3 with (first
    | (go_at_call 59; (with_reducible refine (f2.out _ _ xF.out).mono ?_); rintro e9 w4 ⟨ia, ic, oa, oc, rfl, q1, q2⟩; (try replace rT := Lib.hid (rowB rT.out q2 (Array.getElem?_eq_some_iff.1 rT.out).1)); (try replace rid := Lib.hid (rowB rid.out q2 (Array.getElem?_eq_some_iff.1 rid.out).1)); (try replace xT := Lib.hid (xT.out.mono q2)); (try replace xB := Lib.hid (xB.out.mono q2)); (try replace xC := Lib.hid (xC.out.mono q2)); (try replace hG := Lib.hid (hG.out.mono q2)); (try replace xF := Lib.hid (xF.out.mono q2)); replace hS0 := Lib.hid (hS0.out.trans (Below.mono q2 hS0.out.size)); have xS := Lib.hid q1; clear q1; clear q2)
    | (refine storeNew _ rfl 105 _ _ rfl #[.int .u8 5, .int .u64 0, .slice ia 0 ic, .slice oa 2 oc] 105 rfl rfl info_frameT rfl (by simp [Value.oneCell']) ?_; intro wx hrx hbx; (try replace rT := Lib.hid (rowB rT.out hbx (Array.getElem?_eq_some_iff.1 rT.out).1)); (try replace rid := Lib.hid (rowB rid.out hbx (Array.getElem?_eq_some_iff.1 rid.out).1)); (try replace xT := Lib.hid (xT.out.mono hbx)); (try replace xB := Lib.hid (xB.out.mono hbx)); (try replace xC := Lib.hid (xC.out.mono hbx)); (try replace hG := Lib.hid (hG.out.mono hbx)); (try replace xF := Lib.hid (xF.out.mono hbx)); (try replace xS := Lib.hid (xS.out.mono hbx)); replace hS0 := Lib.hid (hS0.out.trans (Below.mono hbx hS0.out.size)); have rF := Lib.hid hrx; clear hrx hbx))
  clear xF
  have c3 := cell_of_row _ _ 3 _ _ _ rF.out
  replace c3 : wx.cell? ⟨_, 3, none⟩ = some (.slice oa 2 oc) := c3
  go_upto_region 6 with (go_at_call 6; (with_reducible refine (f3.out _ _ _ xS.out hG.out).mono ?_); rintro e9 w4 ⟨gv, rfl, q1, q2⟩; (try replace rT := Lib.hid (rowB rT.out q2 (Array.getElem?_eq_some_iff.1 rT.out).1)); (try replace rid := Lib.hid (rowB rid.out q2 (Array.getElem?_eq_some_iff.1 rid.out).1)); (try replace rF := Lib.hid (rowB rF.out q2 (Array.getElem?_eq_some_iff.1 rF.out).1)); (try replace xT := Lib.hid (xT.out.mono q2)); (try replace xB := Lib.hid (xB.out.mono q2)); (try replace xC := Lib.hid (xC.out.mono q2)); (try replace hG := Lib.hid (hG.out.mono q2)); (try replace xS := Lib.hid (xS.out.mono q2)); replace hS0 := Lib.hid (hS0.out.trans (Below.mono q2 hS0.out.size)); have rv := Lib.hid q1; clear q1; clear q2)
  clear c3
  have c3 := cell_of_row _ _ 3 _ _ _ rF.out
  replace c3 : w4.cell? ⟨_, 3, none⟩ = some (.slice oa 2 oc) := c3
  obtain ⟨bs, os, hoa, hbs, s0, hs0, rs0⟩ := rdS_at2 xS.out 0 (by show 0 < 2; decide)
  subst hoa
  rw [Nat.add_zero] at hs0
  replace rs0 : RdB w4 s0 B := rs0
  obtain ⟨sa, sc, rfl⟩ := rs0.slice
  rw [hN.out] at rs0 hs0
  have rs0 := Lib.hid rs0
  clear xS hbs
  go_upto_region 7 with (first
    | (go_at_call 9; (with_reducible refine (f4.out _ _ rs0.out hG.out).mono ?_); rintro e9 w4 ⟨ya, yc, rfl, q1, q2⟩; (try replace rT := Lib.hid (rowB rT.out q2 (Array.getElem?_eq_some_iff.1 rT.out).1)); (try replace rid := Lib.hid (rowB rid.out q2 (Array.getElem?_eq_some_iff.1 rid.out).1)); (try replace rF := Lib.hid (rowB rF.out q2 (Array.getElem?_eq_some_iff.1 rF.out).1)); (try replace rv := Lib.hid (rowB rv.out q2 (Array.getElem?_eq_some_iff.1 rv.out).1)); (try replace xT := Lib.hid (xT.out.mono q2)); (try replace xB := Lib.hid (xB.out.mono q2)); (try replace xC := Lib.hid (xC.out.mono q2)); (try replace hG := Lib.hid (hG.out.mono q2)); (try replace rs0 := Lib.hid (rs0.out.mono q2)); replace hS0 := Lib.hid (hS0.out.trans (Below.mono q2 hS0.out.size)); have xO := Lib.hid q1; clear q1 c3 hs0; clear q2)
    | (refine wpList_store_row rfl 41 _ _ rfl w4.heap.size (T.c (.slice ya T.n yc)) rfl rfl 41 _ (rowA w4 _ _) info_op rfl (op_one T ya T.n yc) ?_)
    | (refine storeOver _ (w4.heap.size + 1) _ rfl 43 _ _ rfl (u8s D) 43 ((setRow_other _ w4.heap.size (w4.heap.size + 1) _ (by omega)).trans (hn2 w4 _ _)) rfl rfl di.out (ds.out _ (by kernel_rfl)) (u8s_one _) ?_; intro wx hrx hbx0; have hbx := Lib.hid (show Below w4.heap.size w4 wx from (below_setRow' ((below_a w4 _).alloc (by simp) _) (Nat.le_refl _) _).trans (hbx0.mono (Nat.le_succ _))); (try replace rT := Lib.hid (rowB rT.out hbx.out (Array.getElem?_eq_some_iff.1 rT.out).1)); (try replace rid := Lib.hid (rowB rid.out hbx.out (Array.getElem?_eq_some_iff.1 rid.out).1)); (try replace rF := Lib.hid (rowB rF.out hbx.out (Array.getElem?_eq_some_iff.1 rF.out).1)); (try replace rv := Lib.hid (rowB rv.out hbx.out (Array.getElem?_eq_some_iff.1 rv.out).1)); (try replace xT := Lib.hid (xT.out.mono hbx.out)); (try replace xB := Lib.hid (xB.out.mono hbx.out)); (try replace xC := Lib.hid (xC.out.mono hbx.out)); (try replace hG := Lib.hid (hG.out.mono hbx.out)); (try replace rs0 := Lib.hid (rs0.out.mono hbx.out)); (try replace xO := Lib.hid (xO.out.mono hbx.out)); replace hS0 := Lib.hid (hS0.out.trans (Below.mono hbx.out hS0.out.size)); have rO := Lib.hid ((hbx0.block w4.heap.size (Nat.lt_succ_self _)).trans (setRow_heap _ _ _ (T.c (.slice ya T.n yc)) _ _ (rowA w4 _ _))); have rI := Lib.hid hrx; clear hrx hbx0 hbx))
  go_upto_region 8 with (first
    | (go_at_call 9; (with_reducible refine (f5.out _ _ xC.out hG.out).mono ?_); rintro e9 w4 ⟨za, zc, rfl, q1, q2⟩; (try replace rT := Lib.hid (rowB rT.out q2 (Array.getElem?_eq_some_iff.1 rT.out).1)); (try replace rid := Lib.hid (rowB rid.out q2 (Array.getElem?_eq_some_iff.1 rid.out).1)); (try replace rF := Lib.hid (rowB rF.out q2 (Array.getElem?_eq_some_iff.1 rF.out).1)); (try replace rv := Lib.hid (rowB rv.out q2 (Array.getElem?_eq_some_iff.1 rv.out).1)); (try replace rO := Lib.hid (rowB rO.out q2 (Array.getElem?_eq_some_iff.1 rO.out).1)); (try replace rI := Lib.hid (rowB rI.out q2 (Array.getElem?_eq_some_iff.1 rI.out).1)); (try replace xT := Lib.hid (xT.out.mono q2)); (try replace xB := Lib.hid (xB.out.mono q2)); (try replace xC := Lib.hid (xC.out.mono q2)); (try replace hG := Lib.hid (hG.out.mono q2)); (try replace rs0 := Lib.hid (rs0.out.mono q2)); (try replace xO := Lib.hid (xO.out.mono q2)); replace hS0 := Lib.hid (hS0.out.trans (Below.mono q2 hS0.out.size)); have xQ := Lib.hid q1; clear q1; clear q2)
    | (refine wpList_store_row rfl 41 _ _ rfl w4.heap.size (q.c (.slice za q.n zc)) rfl rfl 41 _ (rowA w4 _ _) info_op rfl (op_one q za q.n zc) ?_)
    | (refine storeOver _ (w4.heap.size + 1) _ rfl 43 _ _ rfl (u8s Y) 43 ((setRow_other _ w4.heap.size (w4.heap.size + 1) _ (by omega)).trans (hn2 w4 _ _)) rfl rfl di2.out (ds2.out _ (by kernel_rfl)) (u8s_one _) ?_; intro wx hrx hbx0; have hbx := Lib.hid (show Below w4.heap.size w4 wx from (below_setRow' ((below_a w4 _).alloc (by simp) _) (Nat.le_refl _) _).trans (hbx0.mono (Nat.le_succ _))); (try replace rT := Lib.hid (rowB rT.out hbx.out (Array.getElem?_eq_some_iff.1 rT.out).1)); (try replace rid := Lib.hid (rowB rid.out hbx.out (Array.getElem?_eq_some_iff.1 rid.out).1)); (try replace rF := Lib.hid (rowB rF.out hbx.out (Array.getElem?_eq_some_iff.1 rF.out).1)); (try replace rv := Lib.hid (rowB rv.out hbx.out (Array.getElem?_eq_some_iff.1 rv.out).1)); (try replace rO := Lib.hid (rowB rO.out hbx.out (Array.getElem?_eq_some_iff.1 rO.out).1)); (try replace rI := Lib.hid (rowB rI.out hbx.out (Array.getElem?_eq_some_iff.1 rI.out).1)); (try replace xT := Lib.hid (xT.out.mono hbx.out)); (try replace xB := Lib.hid (xB.out.mono hbx.out)); (try replace xC := Lib.hid (xC.out.mono hbx.out)); (try replace hG := Lib.hid (hG.out.mono hbx.out)); (try replace rs0 := Lib.hid (rs0.out.mono hbx.out)); (try replace xO := Lib.hid (xO.out.mono hbx.out)); (try replace xQ := Lib.hid (xQ.out.mono hbx.out)); replace hS0 := Lib.hid (hS0.out.trans (Below.mono hbx.out hS0.out.size)); have rQ := Lib.hid ((hbx0.block w4.heap.size (Nat.lt_succ_self _)).trans (setRow_heap _ _ _ (q.c (.slice za q.n zc)) _ _ (rowA w4 _ _))); have rY := Lib.hid hrx; clear hrx hbx0 hbx))
  have v0 : wx.cell? ⟨gv, 0, none⟩ = some (.int .u8 0) := cell_of_row _ _ 0 _ _ _ rv.out
  have v1 : wx.cell? ⟨gv, 1, none⟩ = some (.int .u8 V) := cell_of_row _ _ 1 _ _ _ rv.out
  go_upto_region 10 with (first
    | (refine loadR 43 _ rfl _ rfl rfl 43 (u8s D) (0, 0) _ rI.out Tryz.underlying43 rfl di.out ?_)
    | (refine loadR 43 _ rfl _ rfl rfl 43 (u8s D) (0, 0) _ rid.out Tryz.underlying43 rfl di.out ?_)
    | (refine neqR 43 _ _ rfl (u8s D) (u8s D) rfl rfl rfl id_guardT false (hneq.out _) ?_)
    | (refine loadR 41 _ rfl _ rfl rfl 41 (T.c (.slice ya T.n yc)) (0, 0) _ rO.out Tryz.underlying41 rfl info_op ?_)
    | (refine loadR 41 _ rfl _ rfl rfl 41 (T.c (.slice pa T.n pc)) (0, 0) _ rT.out Tryz.underlying41 rfl info_op ?_)
    | (go_at_call 11; (with_reducible refine (f6.out _ _ _ xO.out xT.out).mono ?_); rintro e9 w4 ⟨rfl, q2⟩; (try replace rT := Lib.hid (rowB rT.out q2 (Array.getElem?_eq_some_iff.1 rT.out).1)); (try replace rid := Lib.hid (rowB rid.out q2 (Array.getElem?_eq_some_iff.1 rid.out).1)); (try replace rF := Lib.hid (rowB rF.out q2 (Array.getElem?_eq_some_iff.1 rF.out).1)); (try replace rv := Lib.hid (rowB rv.out q2 (Array.getElem?_eq_some_iff.1 rv.out).1)); (try replace rO := Lib.hid (rowB rO.out q2 (Array.getElem?_eq_some_iff.1 rO.out).1)); (try replace rI := Lib.hid (rowB rI.out q2 (Array.getElem?_eq_some_iff.1 rI.out).1)); (try replace rQ := Lib.hid (rowB rQ.out q2 (Array.getElem?_eq_some_iff.1 rQ.out).1)); (try replace rY := Lib.hid (rowB rY.out q2 (Array.getElem?_eq_some_iff.1 rY.out).1)); (try replace xT := Lib.hid (xT.out.mono q2)); (try replace xB := Lib.hid (xB.out.mono q2)); (try replace xC := Lib.hid (xC.out.mono q2)); (try replace hG := Lib.hid (hG.out.mono q2)); (try replace rs0 := Lib.hid (rs0.out.mono q2)); (try replace xO := Lib.hid (xO.out.mono q2)); (try replace xQ := Lib.hid (xQ.out.mono q2)); replace hS0 := Lib.hid (hS0.out.trans (Below.mono q2 hS0.out.size)); clear v0 v1; clear q2))
  go_wp2_with (first
    | (go_at_call 10; (with_reducible refine (f7.out _ _ _ xB.out xC.out).mono ?_); rintro e9 w4 ⟨rfl, q2⟩; (try replace rT := Lib.hid (rowB rT.out q2 (Array.getElem?_eq_some_iff.1 rT.out).1)); (try replace rid := Lib.hid (rowB rid.out q2 (Array.getElem?_eq_some_iff.1 rid.out).1)); (try replace rF := Lib.hid (rowB rF.out q2 (Array.getElem?_eq_some_iff.1 rF.out).1)); (try replace rv := Lib.hid (rowB rv.out q2 (Array.getElem?_eq_some_iff.1 rv.out).1)); (try replace rO := Lib.hid (rowB rO.out q2 (Array.getElem?_eq_some_iff.1 rO.out).1)); (try replace rI := Lib.hid (rowB rI.out q2 (Array.getElem?_eq_some_iff.1 rI.out).1)); (try replace rQ := Lib.hid (rowB rQ.out q2 (Array.getElem?_eq_some_iff.1 rQ.out).1)); (try replace rY := Lib.hid (rowB rY.out q2 (Array.getElem?_eq_some_iff.1 rY.out).1)); (try replace xT := Lib.hid (xT.out.mono q2)); (try replace xB := Lib.hid (xB.out.mono q2)); (try replace xC := Lib.hid (xC.out.mono q2)); (try replace hG := Lib.hid (hG.out.mono q2)); (try replace rs0 := Lib.hid (rs0.out.mono q2)); (try replace xO := Lib.hid (xO.out.mono q2)); (try replace xQ := Lib.hid (xQ.out.mono q2)); replace hS0 := Lib.hid (hS0.out.trans (Below.mono q2 hS0.out.size)); clear q2)
    | (refine loadR 41 _ rfl _ rfl rfl 41 (q.c (.slice za q.n zc)) (0, 0) _ rQ.out Tryz.underlying41 rfl info_op ?_))
  go_ret
  exact ⟨rfl, hS0.out⟩
end Go.Proofs.YtfaojjleapenaabGreatDoor.wir.val.top

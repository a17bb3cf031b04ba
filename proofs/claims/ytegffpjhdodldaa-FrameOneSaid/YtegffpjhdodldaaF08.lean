/- Layer 7: contracts of package frame: what frames of a kind have is read. -/
import Derived.Test.YtegffpjhdodldaaF07
import Derived.Test.YtegffpjhdodldaaI04
namespace Go.Proofs.Ytegffpjhdodldaa
open Go.RowKit Go.Ytegffpjhdodldaa
set_option linter.unusedVariables false
theorem results_row_tmp2 {P : Program} {fn : Func} {p u v : Tmp} {ty : TypeId} (h : fn.results = #[.cell p ty, .tmp u, .tmp v]) (tmps : Array Value) (w : World) (g : Nat) (t : TypeId) (cs : Array Value) (fr : Nat × Nat) (d : TypeDesc)
    (hp : tmps.getD p undef = .pointer (some ⟨g, 0, none⟩)) (hg : w.heap[g]? = some (.cells cs t fr))
    (hu : P.underlying ty = some d) (hd : (match d with | .struct _ | .array _ _ => true | _ => false) = true) (hi : (P.info? ty).map (·.size) = some cs.size) :
    (results fn tmps).run P w = .ok (.tuple #[.agg cs, tmps.getD u undef, tmps.getD v undef]) w := by
  have hc : (results fn tmps).run P w =
      ((asAddr (tmps.getD p undef)).run P w).andThen fun a w₁ => ((loadVar ty a).run P w₁).andThen fun x w₂ => .ok (.tuple #[x, tmps.getD u undef, tmps.getD v undef]) w₂ := by
    simp only [results, h]
    simp [Sem.run_bind, Result.andThen]
  rw [hc, hp]
  have hl := run_loadVar_row (P := P) w g t ty cs fr d hg hu hd hi
  simp [asAddr, hl]
/-- The frame of a kind that has nothing. -/
def kF (k : Int) : Fr := ⟨k, 0, 0, [], []⟩
theorem fr_one (f : Fr) (a a' : Option Addr) (n n' c c' : Nat) : (f.c (.slice a n c) (.slice a' n' c')).all (·.oneCell') = true := by simp [Fr.c, Value.oneCell']
theorem setN {w : World} {g : Nat} {k : Int} {iv ov : Value} (h : w.heap[g]? = some (.cells ((kF k).c iv ov) 26 (0, 0))) (N : Nat) :
    w.setCell ⟨g, 1, none⟩ (.int .u64 (N : Int)) = w.setRow g ((⟨k, N, 0, [], []⟩ : Fr).c iv ov) := setCell_eq h 1 (.int .u64 (N : Int))
theorem setI {w : World} {g : Nat} {k : Int} {iv ov : Value} (h : w.heap[g]? = some (.cells ((kF k).c iv ov) 26 (0, 0))) (x : Value) (n : Nat) (F : List Int) :
    w.setCell ⟨g, 2, none⟩ x = w.setRow g ((⟨k, 0, n, F, []⟩ : Fr).c x ov) := setCell_eq h 2 x
theorem setO {w : World} {g : Nat} {k : Int} {iv ov : Value} (h : w.heap[g]? = some (.cells ((kF k).c iv ov) 26 (0, 0))) (x : Value) (L : List (List Int)) :
    w.setCell ⟨g, 3, none⟩ x = w.setRow g ((⟨k, 0, 0, [], L⟩ : Fr).c iv x) := setCell_eq h 3 x
/-- The world has these rows: two frames, behind what was there. -/
def readPost (w : World) (k : Int) (b : List Int) (e : Ending) (w' : World) : Prop :=
  Below w.heap.size w w' ∧ (readR k b = none → e = .returned (.tuple #[.agg ((kF k).c (.slice none 0 0) (.slice none 0 0)), .int .i64 0, .int .i64 12])) ∧
    ∀ f u, readR k b = some (f, u) → ∃ iv ov, e = .returned (.tuple #[.agg (f.c iv ov), .int .i64 ((u : Nat) : Int), .int .i64 0]) ∧ HeldI w.heap.size w' iv f.n f.F ∧ HeldS w.heap.size w' ov f.L
theorem readR_num {k : Int} (h : numK k = true) (b : List Int) : readR k b = (match readF b with
    | none => none
    | some p => some (⟨k, p.1, 0, [], []⟩, p.2)) := if_pos h
theorem readR_ids {k : Int} (h : numK k = false) (h2 : idsK k = true) (b : List Int) : readR k b = (match readC b 40 32 with
    | none => none
    | some p => if riseF ((b.drop p.2).take (p.1 * 32)) p.1 = true then some (⟨k, 0, p.1, (b.drop p.2).take (p.1 * 32), []⟩, p.2 + p.1 * 32) else none) := by
  unfold readR
  rw [if_neg (by rw [h]; decide), if_pos h2]
  rfl
theorem readR_ops {k : Int} (h : numK k = false) (h2 : idsK k = false) (h5 : k = 5) (b : List Int) : readR k b = (match readS b with
    | none => none
    | some q => some (⟨k, 0, 0, [], q.1⟩, q.2)) := by
  unfold readR
  rw [if_neg (by rw [h]; decide), if_neg (by rw [h2]; decide), if_pos h5]
  rfl
theorem readR_else {k : Int} (h : numK k = false) (h2 : idsK k = false) (h5 : ¬ k = 5) (b : List Int) : readR k b = none := by
  unfold readR
  rw [if_neg (by rw [h]; decide), if_neg (by rw [h2]; decide), if_neg h5]
theorem held_setRow {B g : Nat} {w : World} {v : Value} {n : Nat} {F : List Int} (h : HeldI B w v n F) (hg : g < B) (cs : Array Value) : HeldI B (w.setRow g cs) v n F := fun wx h1 h2 =>
  h wx (fun k k1 k2 => (h1 k k1 (by simpa [World.setRow] using k2)).trans (setRow_other w g k cs (by omega))) (by simpa [World.setRow] using h2)
theorem heldS_setRow {B g : Nat} {w : World} {v : Value} {L : List (List Int)} (h : HeldS B w v L) (hg : g < B) (cs : Array Value) : HeldS B (w.setRow g cs) v L := fun wx h1 h2 =>
  h wx (fun k k1 k2 => (h1 k k1 (by simpa [World.setRow] using k2)).trans (setRow_other w g k cs (by omega))) (by simpa [World.setRow] using h2)
set_option maxHeartbeats 4000000 in
set_option maxRecDepth 100000 in
theorem read_any (k : Int) (b : List Int) (bv : Value) (w : World) (hr : RdB w bv b) (hb : Bytes b) (hl : b.length ≤ 100000) :
    Calls Try.prog 34 #[.int .u8 k, bv] w (readPost w k b) := by
  obtain ⟨W, hW⟩ : ∃ W, W = (w.alloc (.cells ((kF 0).c (.slice none 0 0) (.slice none 0 0)) 26)).alloc (.cells ((kF k).c (.slice none 0 0) (.slice none 0 0)) 26) := ⟨_, rfl⟩
  have hr0 : W.heap[w.heap.size]? = some (.cells ((kF 0).c (.slice none 0 0) (.slice none 0 0)) 26 (0, 0)) := by rw [hW]; exact rowB (heap_alloc_new w _) (below_a _ _) (by simp)
  have hr1 : W.heap[w.heap.size + 1]? = some (.cells ((kF k).c (.slice none 0 0) (.slice none 0 0)) 26 (0, 0)) := by rw [hW]; exact hn2 w _ _
  have hb0 : Below w.heap.size w W := by rw [hW]; exact ((Below.refl w.heap.size w).alloc (Nat.le_refl _) _).alloc (by simp) _
  have hsz : W.heap.size = w.heap.size + 2 := by rw [hW]; simp
  obtain ⟨ba, bc, rfl⟩ := hr.slice
  have hB := Lib.hid hb0
  have hs := Lib.hid hr0
  have hf := Lib.hid hr1
  have hrb := Lib.hid (hr.mono hb0)
  have hszh := Lib.hid hsz
  have hK := Lib.hid (fun wz => hasNumber_any k wz)
  have hD := Lib.hid (fun wz => hasIDs_any k wz)
  have hbb := Lib.hid hb
  have hlb := Lib.hid hl
  have p1 := Lib.hid (fun h => readR_num (k := k) h b)
  have p2 := Lib.hid (fun h h2 => readR_ids (k := k) h h2 b)
  have p3 := Lib.hid (fun h h2 h5 => readR_ops (k := k) h h2 h5 b)
  have p4 := Lib.hid (fun h h2 h5 => readR_else (k := k) h h2 h5 b)
  obtain ⟨NB, hNB⟩ : ∃ NB, b.length = NB := ⟨_, rfl⟩
  rw [hNB] at hrb ⊢
  clear hr0 hr1 hb0 hsz hr hb hl hNB
  cases hk : numK k
  · rw [hk] at hK
    replace p2 := Lib.hid (p2.out hk)
    replace p3 := Lib.hid (p3.out hk)
    replace p4 := Lib.hid (p4.out hk)
    cases hd : idsK k
    · rw [hd] at hD
      replace p3 := Lib.hid (p3.out hd)
      replace p4 := Lib.hid (p4.out hd)
      clear p1 p2 hk hd
      by_cases h5 : k = 5
      · subst h5
        replace p3 := p3.out rfl
        have hS := Lib.hid (readStrings_any b _ W hrb.out hbb.out hlb.out)
        cases hre : readS b with
        | none =>
          rw [hre] at p3
          have hn := Lib.hid p3
          have hS2 := Lib.hid (hS.out.mono fun e w' h => (show e = .returned (.tuple #[.slice none 0 0, .int .i64 0, .int .i64 12]) ∧ Below W.heap.size W w' from ⟨h.2.1 hre, h.1⟩))
          clear hS p3 p4 hre
          go_enter Try.func34, Try.ntmps34
          go_upto_region 2 with fail
          change Code.wp _ _ _ _ ((w.alloc (.cells ((kF 0).c (.slice none 0 0) (.slice none 0 0)) 26)).alloc (.cells ((kF 5).c (.slice none 0 0) (.slice none 0 0)) 26))
          rw [← hW]
          clear hW
          go_upto_region 9 with (first | (go_at_call 39; (with_reducible refine (hK.out _).mono ?_); rintro e w2 ⟨rfl, rfl⟩) | (go_at_call 30; (with_reducible refine (hD.out _).mono ?_); rintro e w2 ⟨rfl, rfl⟩) | (go_at_call 50; (with_reducible refine (hS2.out).mono ?_); rintro e w3 ⟨rfl, q2⟩; have z3 := q2.size; replace hs := Lib.hid (rowB hs.out q2 (Array.getElem?_eq_some_iff.1 hs.out).1); replace hf := Lib.hid (rowB hf.out q2 (Array.getElem?_eq_some_iff.1 hf.out).1); replace hB := Lib.hid (hB.out.trans (q2.mono hB.out.size)); clear q2; have f1 := frozen_of_row _ (w.heap.size + 1) 1 _ _ hf.out; have f2 := frozen_of_row _ (w.heap.size + 1) 2 _ _ hf.out; have f3 := frozen_of_row _ (w.heap.size + 1) 3 _ _ hf.out; obtain ⟨_, d1, d2, d3⟩ := cellsF hf.out))
          rw [setO hf.out (.slice none 0 0) []]
          replace hs := Lib.hid ((setRow_other _ (w.heap.size + 1) w.heap.size ((⟨5, 0, 0, [], []⟩ : Fr).c (.slice none 0 0) (.slice none 0 0)) (by omega)).trans hs.out)
          replace hf := Lib.hid (setRow_heap _ (w.heap.size + 1) _ ((⟨5, 0, 0, [], []⟩ : Fr).c (.slice none 0 0) (.slice none 0 0)) _ _ hf.out)
          replace hB := Lib.hid (below_setRow' hB.out (Nat.le_succ w.heap.size) ((⟨5, 0, 0, [], []⟩ : Fr).c (.slice none 0 0) (.slice none 0 0)))
          clear f1 f2 f3 d1 d2 d3
          go_wp2_with (first
            | (refine wpList_load_row_g rfl 26 _ rfl (w.heap.size + 1) rfl 26 ((⟨5, 0, 0, [], []⟩ : Fr).c (.slice none 0 0) (.slice none 0 0)) (0, 0) _ hf.out Try.underlying26 rfl info_frame ?_)
            | (refine wpList_store_row rfl 26 _ _ rfl w.heap.size ((⟨5, 0, 0, [], []⟩ : Fr).c (.slice none 0 0) (.slice none 0 0)) rfl rfl 26 _ hs.out info_frame rfl (fr_one _ _ _ _ _ _ _) ?_))
          refine bodyPost_ret (results_row_tmp2 rfl _ _ w.heap.size 26 _ _ _ rfl (setRow_heap _ _ _ _ _ _ hs.out) Try.underlying26 rfl info_frame) rfl ?_
          exact ⟨below_setRow' hB.out (Nat.le_refl _) _, fun _ => rfl, fun f u h => by rw [hn.out] at h; cases h⟩
        | some q =>
          obtain ⟨L, u⟩ := q
          rw [hre] at p3
          have hn := Lib.hid p3
          have hS2 := Lib.hid (hS.out.mono fun e w' h => (show ∃ v, e = .returned (.tuple #[v, .int .i64 ((u : Nat) : Int), .int .i64 0]) ∧ HeldS W.heap.size w' v L ∧ Below W.heap.size W w' from by obtain ⟨v, h1, h2⟩ := h.2.2 L u hre; exact ⟨v, h1, h2.held, h.1⟩))
          clear hS p3 p4 hre
          obtain ⟨M, hM⟩ : ∃ M, L.length = M := ⟨_, rfl⟩
          have hMh := Lib.hid hM
          clear hM
          go_enter Try.func34, Try.ntmps34
          go_upto_region 2 with fail
          change Code.wp _ _ _ _ ((w.alloc (.cells ((kF 0).c (.slice none 0 0) (.slice none 0 0)) 26)).alloc (.cells ((kF 5).c (.slice none 0 0) (.slice none 0 0)) 26))
          rw [← hW]
          clear hW
          go_upto_region 9 with (first | (go_at_call 39; (with_reducible refine (hK.out _).mono ?_); rintro e w2 ⟨rfl, rfl⟩) | (go_at_call 30; (with_reducible refine (hD.out _).mono ?_); rintro e w2 ⟨rfl, rfl⟩) | (go_at_call 50; (with_reducible refine (hS2.out).mono ?_); rintro e w3 ⟨v, rfl, q1, q2⟩; have hH := Lib.hid q1; obtain ⟨va, vc, hv⟩ := (heldS_rd q1).slice; subst hv; have z3 := q2.size; replace hs := Lib.hid (rowB hs.out q2 (Array.getElem?_eq_some_iff.1 hs.out).1); replace hf := Lib.hid (rowB hf.out q2 (Array.getElem?_eq_some_iff.1 hf.out).1); replace hB := Lib.hid (hB.out.trans (q2.mono hB.out.size)); clear q2; have f1 := frozen_of_row _ (w.heap.size + 1) 1 _ _ hf.out; have f2 := frozen_of_row _ (w.heap.size + 1) 2 _ _ hf.out; have f3 := frozen_of_row _ (w.heap.size + 1) 3 _ _ hf.out; obtain ⟨_, d1, d2, d3⟩ := cellsF hf.out; clear q1))
          rw [setO hf.out (.slice va L.length vc) L]
          replace hs := Lib.hid ((setRow_other _ (w.heap.size + 1) w.heap.size ((⟨5, 0, 0, [], L⟩ : Fr).c (.slice none 0 0) (.slice va L.length vc)) (by omega)).trans hs.out)
          replace hf := Lib.hid (setRow_heap _ (w.heap.size + 1) _ ((⟨5, 0, 0, [], L⟩ : Fr).c (.slice none 0 0) (.slice va L.length vc)) _ _ hf.out)
          replace hB := Lib.hid (below_setRow' hB.out (Nat.le_succ w.heap.size) ((⟨5, 0, 0, [], L⟩ : Fr).c (.slice none 0 0) (.slice va L.length vc)))
          clear f1 f2 f3 d1 d2 d3
          go_wp2_with (first
            | (refine wpList_load_row_g rfl 26 _ rfl (w.heap.size + 1) rfl 26 ((⟨5, 0, 0, [], L⟩ : Fr).c (.slice none 0 0) (.slice va L.length vc)) (0, 0) _ hf.out Try.underlying26 rfl info_frame ?_)
            | (refine wpList_store_row rfl 26 _ _ rfl w.heap.size ((⟨5, 0, 0, [], L⟩ : Fr).c (.slice none 0 0) (.slice va L.length vc)) rfl rfl 26 _ hs.out info_frame rfl (fr_one _ _ _ _ _ _ _) ?_))
          refine bodyPost_ret (results_row_tmp2 rfl _ _ w.heap.size 26 _ _ _ rfl (setRow_heap _ _ _ _ _ _ hs.out) Try.underlying26 rfl info_frame) rfl ?_
          exact ⟨below_setRow' hB.out (Nat.le_refl _) _, (fun h => by rw [hn.out] at h; cases h), fun f u' h => by
            rw [hn.out] at h
            obtain ⟨e1, e2⟩ := Prod.mk.inj (Option.some.inj h)
            subst e1 e2
            exact ⟨_, _, rfl, heldI_nil _ _, heldS_lower (heldS_setRow (heldS_setRow hH.out (by have := hszh.out; omega) _) (by have := hszh.out; omega) _) (by have := hszh.out; omega)⟩⟩
      · have hn := Lib.hid (p4.out h5)
        clear p3 p4
        go_enter Try.func34, Try.ntmps34
        go_upto_region 2 with fail
        change Code.wp _ _ _ _ ((w.alloc (.cells ((kF 0).c (.slice none 0 0) (.slice none 0 0)) 26)).alloc (.cells ((kF k).c (.slice none 0 0) (.slice none 0 0)) 26))
        rw [← hW]
        clear hW
        go_upto_region 9 with (first | (go_at_call 39; (with_reducible refine (hK.out _).mono ?_); rintro e w2 ⟨rfl, rfl⟩) | (go_at_call 30; (with_reducible refine (hD.out _).mono ?_); rintro e w2 ⟨rfl, rfl⟩))
        go_wp2_with (first
          | (refine wpList_load_row_g rfl 26 _ rfl (w.heap.size + 1) rfl 26 ((kF k).c (.slice none 0 0) (.slice none 0 0)) (0, 0) _ hf.out Try.underlying26 rfl info_frame ?_)
          | (refine wpList_store_row rfl 26 _ _ rfl w.heap.size ((kF k).c (.slice none 0 0) (.slice none 0 0)) rfl rfl 26 _ hs.out info_frame rfl (fr_one _ _ _ _ _ _ _) ?_))
        refine bodyPost_ret (results_row_tmp2 rfl _ _ w.heap.size 26 _ _ _ rfl (setRow_heap _ _ _ _ _ _ hs.out) Try.underlying26 rfl info_frame) rfl ?_
        exact ⟨below_setRow' hB.out (Nat.le_refl _) _, fun _ => rfl, fun f u h => by rw [hn.out] at h; cases h⟩
    · rw [hd] at hD
      replace p2 := p2.out hd
      clear p1 p3 p4 hk hd
      cases hre : readC b 40 32 with
      | none =>
        rw [hre] at p2
        have hn := Lib.hid p2
        have hS2 := Lib.hid (readIDs_no b _ 40 (by decide) (by decide) W hrb.out hbb.out (by have := hlb.out; omega) hre)
        clear p2 hre
        go_enter Try.func34, Try.ntmps34
        go_upto_region 2 with fail
        change Code.wp _ _ _ _ ((w.alloc (.cells ((kF 0).c (.slice none 0 0) (.slice none 0 0)) 26)).alloc (.cells ((kF k).c (.slice none 0 0) (.slice none 0 0)) 26))
        rw [← hW]
        clear hW
        go_upto_region 9 with (first | (go_at_call 39; (with_reducible refine (hK.out _).mono ?_); rintro e w2 ⟨rfl, rfl⟩) | (go_at_call 30; (with_reducible refine (hD.out _).mono ?_); rintro e w2 ⟨rfl, rfl⟩) | (go_at_call 49; (with_reducible refine (hS2.out).mono ?_); rintro e w3 ⟨rfl, rfl⟩; have f1 := frozen_of_row _ (w.heap.size + 1) 1 _ _ hf.out; have f2 := frozen_of_row _ (w.heap.size + 1) 2 _ _ hf.out; have f3 := frozen_of_row _ (w.heap.size + 1) 3 _ _ hf.out; obtain ⟨_, d1, d2, d3⟩ := cellsF hf.out))
        rw [setI hf.out (.slice none 0 0) 0 []]
        replace hs := Lib.hid ((setRow_other _ (w.heap.size + 1) w.heap.size ((⟨k, 0, 0, [], []⟩ : Fr).c (.slice none 0 0) (.slice none 0 0)) (by omega)).trans hs.out)
        replace hf := Lib.hid (setRow_heap _ (w.heap.size + 1) _ ((⟨k, 0, 0, [], []⟩ : Fr).c (.slice none 0 0) (.slice none 0 0)) _ _ hf.out)
        replace hB := Lib.hid (below_setRow' hB.out (Nat.le_succ w.heap.size) ((⟨k, 0, 0, [], []⟩ : Fr).c (.slice none 0 0) (.slice none 0 0)))
        clear f1 f2 f3 d1 d2 d3
        go_wp2_with (first
          | (refine wpList_load_row_g rfl 26 _ rfl (w.heap.size + 1) rfl 26 ((⟨k, 0, 0, [], []⟩ : Fr).c (.slice none 0 0) (.slice none 0 0)) (0, 0) _ hf.out Try.underlying26 rfl info_frame ?_)
          | (refine wpList_store_row rfl 26 _ _ rfl w.heap.size ((⟨k, 0, 0, [], []⟩ : Fr).c (.slice none 0 0) (.slice none 0 0)) rfl rfl 26 _ hs.out info_frame rfl (fr_one _ _ _ _ _ _ _) ?_))
        refine bodyPost_ret (results_row_tmp2 rfl _ _ w.heap.size 26 _ _ _ rfl (setRow_heap _ _ _ _ _ _ hs.out) Try.underlying26 rfl info_frame) rfl ?_
        exact ⟨below_setRow' hB.out (Nat.le_refl _) _, fun _ => rfl, fun f u h => by rw [hn.out] at h; cases h⟩
      | some q =>
        obtain ⟨n, x⟩ := q
        rw [hre] at p2
        simp only at p2
        have hS := Lib.hid (readIDs_ok b _ 40 (by decide) (by decide) W hrb.out hbb.out (by have := hlb.out; omega) n x hre)
        obtain ⟨c1, c2, c3⟩ := readC_some hre
        obtain ⟨a1, a2, a3, a4⟩ := readF_some hbb.out c1
        have hlF := Lib.hid (show ((b.drop x).take (n * 32)).length = 32 * n by rw [List.length_take, List.length_drop]; omega)
        have hn40 : n ≤ 1000000 := by omega
        clear hre c1 c2 c3 a1 a2 a3 a4
        generalize (b.drop x).take (n * 32) = F at *
        generalize x + n * 32 = u at *
        cases hri : riseF F n
        · rw [hri, if_neg (by decide)] at p2
          have hn := Lib.hid p2
          have hS2 := Lib.hid (hS.out.mono fun e w' h => (show e = .returned (.tuple #[.slice none 0 0, .int .i64 0, .int .i64 12]) ∧ Below W.heap.size W w' from ⟨by have h2 := h.2; rw [hri, if_neg (by decide)] at h2; exact h2, h.1⟩))
          clear hS p2 hri
          go_enter Try.func34, Try.ntmps34
          go_upto_region 2 with fail
          change Code.wp _ _ _ _ ((w.alloc (.cells ((kF 0).c (.slice none 0 0) (.slice none 0 0)) 26)).alloc (.cells ((kF k).c (.slice none 0 0) (.slice none 0 0)) 26))
          rw [← hW]
          clear hW
          go_upto_region 9 with (first | (go_at_call 39; (with_reducible refine (hK.out _).mono ?_); rintro e w2 ⟨rfl, rfl⟩) | (go_at_call 30; (with_reducible refine (hD.out _).mono ?_); rintro e w2 ⟨rfl, rfl⟩) | (go_at_call 49; (with_reducible refine (hS2.out).mono ?_); rintro e w3 ⟨rfl, q2⟩; have z3 := q2.size; replace hs := Lib.hid (rowB hs.out q2 (Array.getElem?_eq_some_iff.1 hs.out).1); replace hf := Lib.hid (rowB hf.out q2 (Array.getElem?_eq_some_iff.1 hf.out).1); replace hB := Lib.hid (hB.out.trans (q2.mono hB.out.size)); clear q2; have f1 := frozen_of_row _ (w.heap.size + 1) 1 _ _ hf.out; have f2 := frozen_of_row _ (w.heap.size + 1) 2 _ _ hf.out; have f3 := frozen_of_row _ (w.heap.size + 1) 3 _ _ hf.out; obtain ⟨_, d1, d2, d3⟩ := cellsF hf.out))
          rw [setI hf.out (.slice none 0 0) 0 []]
          replace hs := Lib.hid ((setRow_other _ (w.heap.size + 1) w.heap.size ((⟨k, 0, 0, [], []⟩ : Fr).c (.slice none 0 0) (.slice none 0 0)) (by omega)).trans hs.out)
          replace hf := Lib.hid (setRow_heap _ (w.heap.size + 1) _ ((⟨k, 0, 0, [], []⟩ : Fr).c (.slice none 0 0) (.slice none 0 0)) _ _ hf.out)
          replace hB := Lib.hid (below_setRow' hB.out (Nat.le_succ w.heap.size) ((⟨k, 0, 0, [], []⟩ : Fr).c (.slice none 0 0) (.slice none 0 0)))
          clear f1 f2 f3 d1 d2 d3
          go_wp2_with (first
            | (refine wpList_load_row_g rfl 26 _ rfl (w.heap.size + 1) rfl 26 ((⟨k, 0, 0, [], []⟩ : Fr).c (.slice none 0 0) (.slice none 0 0)) (0, 0) _ hf.out Try.underlying26 rfl info_frame ?_)
            | (refine wpList_store_row rfl 26 _ _ rfl w.heap.size ((⟨k, 0, 0, [], []⟩ : Fr).c (.slice none 0 0) (.slice none 0 0)) rfl rfl 26 _ hs.out info_frame rfl (fr_one _ _ _ _ _ _ _) ?_))
          refine bodyPost_ret (results_row_tmp2 rfl _ _ w.heap.size 26 _ _ _ rfl (setRow_heap _ _ _ _ _ _ hs.out) Try.underlying26 rfl info_frame) rfl ?_
          exact ⟨below_setRow' hB.out (Nat.le_refl _) _, fun _ => rfl, fun f u h => by rw [hn.out] at h; cases h⟩
        · rw [hri, if_pos rfl] at p2
          have hn := Lib.hid p2
          have hS2 := Lib.hid (hS.out.mono fun e w' h => (show ∃ va vc, e = .returned (.tuple #[.slice va n vc, .int .i64 ((u : Nat) : Int), .int .i64 0]) ∧ HeldI W.heap.size w' (.slice va n vc) n F ∧ Below W.heap.size W w' from by have h2 := h.2; rw [hri, if_pos rfl] at h2; exact ⟨_, _, h2.1, heldI_row h2.2 n hlF.out hn40 (Nat.le_refl _), h.1⟩))
          clear hS p2 hri
          go_enter Try.func34, Try.ntmps34
          go_upto_region 2 with fail
          change Code.wp _ _ _ _ ((w.alloc (.cells ((kF 0).c (.slice none 0 0) (.slice none 0 0)) 26)).alloc (.cells ((kF k).c (.slice none 0 0) (.slice none 0 0)) 26))
          rw [← hW]
          clear hW
          go_upto_region 9 with (first | (go_at_call 39; (with_reducible refine (hK.out _).mono ?_); rintro e w2 ⟨rfl, rfl⟩) | (go_at_call 30; (with_reducible refine (hD.out _).mono ?_); rintro e w2 ⟨rfl, rfl⟩) | (go_at_call 49; (with_reducible refine (hS2.out).mono ?_); rintro e w3 ⟨va, vc, rfl, q1, q2⟩; have hH := Lib.hid q1; have z3 := q2.size; replace hs := Lib.hid (rowB hs.out q2 (Array.getElem?_eq_some_iff.1 hs.out).1); replace hf := Lib.hid (rowB hf.out q2 (Array.getElem?_eq_some_iff.1 hf.out).1); replace hB := Lib.hid (hB.out.trans (q2.mono hB.out.size)); clear q2; have f1 := frozen_of_row _ (w.heap.size + 1) 1 _ _ hf.out; have f2 := frozen_of_row _ (w.heap.size + 1) 2 _ _ hf.out; have f3 := frozen_of_row _ (w.heap.size + 1) 3 _ _ hf.out; obtain ⟨_, d1, d2, d3⟩ := cellsF hf.out; clear q1))
          rw [setI hf.out (.slice va n vc) n F]
          replace hs := Lib.hid ((setRow_other _ (w.heap.size + 1) w.heap.size ((⟨k, 0, n, F, []⟩ : Fr).c (.slice va n vc) (.slice none 0 0)) (by omega)).trans hs.out)
          replace hf := Lib.hid (setRow_heap _ (w.heap.size + 1) _ ((⟨k, 0, n, F, []⟩ : Fr).c (.slice va n vc) (.slice none 0 0)) _ _ hf.out)
          replace hB := Lib.hid (below_setRow' hB.out (Nat.le_succ w.heap.size) ((⟨k, 0, n, F, []⟩ : Fr).c (.slice va n vc) (.slice none 0 0)))
          clear f1 f2 f3 d1 d2 d3
          go_wp2_with (first
            | (refine wpList_load_row_g rfl 26 _ rfl (w.heap.size + 1) rfl 26 ((⟨k, 0, n, F, []⟩ : Fr).c (.slice va n vc) (.slice none 0 0)) (0, 0) _ hf.out Try.underlying26 rfl info_frame ?_)
            | (refine wpList_store_row rfl 26 _ _ rfl w.heap.size ((⟨k, 0, n, F, []⟩ : Fr).c (.slice va n vc) (.slice none 0 0)) rfl rfl 26 _ hs.out info_frame rfl (fr_one _ _ _ _ _ _ _) ?_))
          refine bodyPost_ret (results_row_tmp2 rfl _ _ w.heap.size 26 _ _ _ rfl (setRow_heap _ _ _ _ _ _ hs.out) Try.underlying26 rfl info_frame) rfl ?_
          exact ⟨below_setRow' hB.out (Nat.le_refl _) _, (fun h => by rw [hn.out] at h; cases h), fun f u' h => by
            rw [hn.out] at h
            obtain ⟨e1, e2⟩ := Prod.mk.inj (Option.some.inj h)
            subst e1 e2
            exact ⟨_, _, rfl, heldI_lower (held_setRow (held_setRow hH.out (by have := hszh.out; omega) _) (by have := hszh.out; omega) _) (by have := hszh.out; omega), heldS_nil _ _⟩⟩
  · rw [hk] at hK
    replace p1 := p1.out hk
    clear p2 p3 p4 hk
    have hS := Lib.hid (readNumber_any b _ W hrb.out hbb.out)
    cases hre : readF b with
    | none =>
      rw [hre] at p1
      have hn := Lib.hid p1
      obtain ⟨e1, e2, e3⟩ := rd_none hre
      have hS2 := Lib.hid (hS.out.mono fun e w' h => (show e = .returned (.tuple #[.int .u64 ((0 : Nat) : Int), .int .i64 0, .int .i64 12]) ∧ W = w' from ⟨by rw [h.1, e1, e2, e3]; rfl, h.2⟩))
      clear hS p1 hre e1 e2 e3
      go_enter Try.func34, Try.ntmps34
      go_upto_region 2 with fail
      change Code.wp _ _ _ _ ((w.alloc (.cells ((kF 0).c (.slice none 0 0) (.slice none 0 0)) 26)).alloc (.cells ((kF k).c (.slice none 0 0) (.slice none 0 0)) 26))
      rw [← hW]
      clear hW
      go_upto_region 9 with (first | (go_at_call 39; (with_reducible refine (hK.out _).mono ?_); rintro e w2 ⟨rfl, rfl⟩) | (go_at_call 48; (with_reducible refine (hS2.out).mono ?_); rintro e w3 ⟨rfl, rfl⟩; have f1 := frozen_of_row _ (w.heap.size + 1) 1 _ _ hf.out; have f2 := frozen_of_row _ (w.heap.size + 1) 2 _ _ hf.out; have f3 := frozen_of_row _ (w.heap.size + 1) 3 _ _ hf.out; obtain ⟨_, d1, d2, d3⟩ := cellsF hf.out))
      rw [(show W.setCell ⟨w.heap.size + 1, 1, none⟩ (.int .u64 0) = W.setRow (w.heap.size + 1) ((⟨k, 0, 0, [], []⟩ : Fr).c (.slice none 0 0) (.slice none 0 0)) from setN hf.out 0)]
      replace hs := Lib.hid ((setRow_other _ (w.heap.size + 1) w.heap.size ((⟨k, 0, 0, [], []⟩ : Fr).c (.slice none 0 0) (.slice none 0 0)) (by omega)).trans hs.out)
      replace hf := Lib.hid (setRow_heap _ (w.heap.size + 1) _ ((⟨k, 0, 0, [], []⟩ : Fr).c (.slice none 0 0) (.slice none 0 0)) _ _ hf.out)
      replace hB := Lib.hid (below_setRow' hB.out (Nat.le_succ w.heap.size) ((⟨k, 0, 0, [], []⟩ : Fr).c (.slice none 0 0) (.slice none 0 0)))
      clear f1 f2 f3 d1 d2 d3
      go_wp2_with (first
        | (refine wpList_load_row_g rfl 26 _ rfl (w.heap.size + 1) rfl 26 ((⟨k, 0, 0, [], []⟩ : Fr).c (.slice none 0 0) (.slice none 0 0)) (0, 0) _ hf.out Try.underlying26 rfl info_frame ?_)
        | (refine wpList_store_row rfl 26 _ _ rfl w.heap.size ((⟨k, 0, 0, [], []⟩ : Fr).c (.slice none 0 0) (.slice none 0 0)) rfl rfl 26 _ hs.out info_frame rfl (fr_one _ _ _ _ _ _ _) ?_))
      refine bodyPost_ret (results_row_tmp2 rfl _ _ w.heap.size 26 _ _ _ rfl (setRow_heap _ _ _ _ _ _ hs.out) Try.underlying26 rfl info_frame) rfl ?_
      exact ⟨below_setRow' hB.out (Nat.le_refl _) _, fun _ => rfl, fun f u h => by rw [hn.out] at h; cases h⟩
    | some q =>
      obtain ⟨N, u⟩ := q
      rw [hre] at p1
      have hn := Lib.hid p1
      obtain ⟨e1, e2, e3⟩ := rd_some hre
      have hS2 := Lib.hid (hS.out.mono fun e w' h => (show e = .returned (.tuple #[.int .u64 ((N : Nat) : Int), .int .i64 ((u : Nat) : Int), .int .i64 0]) ∧ W = w' from ⟨by rw [h.1, e1, e2, e3], h.2⟩))
      clear hS p1 hre e1 e2 e3
      go_enter Try.func34, Try.ntmps34
      go_upto_region 2 with fail
      change Code.wp _ _ _ _ ((w.alloc (.cells ((kF 0).c (.slice none 0 0) (.slice none 0 0)) 26)).alloc (.cells ((kF k).c (.slice none 0 0) (.slice none 0 0)) 26))
      rw [← hW]
      clear hW
      go_upto_region 9 with (first | (go_at_call 39; (with_reducible refine (hK.out _).mono ?_); rintro e w2 ⟨rfl, rfl⟩) | (go_at_call 48; (with_reducible refine (hS2.out).mono ?_); rintro e w3 ⟨rfl, rfl⟩; have f1 := frozen_of_row _ (w.heap.size + 1) 1 _ _ hf.out; have f2 := frozen_of_row _ (w.heap.size + 1) 2 _ _ hf.out; have f3 := frozen_of_row _ (w.heap.size + 1) 3 _ _ hf.out; obtain ⟨_, d1, d2, d3⟩ := cellsF hf.out))
      rw [setN hf.out N]
      replace hs := Lib.hid ((setRow_other _ (w.heap.size + 1) w.heap.size ((⟨k, N, 0, [], []⟩ : Fr).c (.slice none 0 0) (.slice none 0 0)) (by omega)).trans hs.out)
      replace hf := Lib.hid (setRow_heap _ (w.heap.size + 1) _ ((⟨k, N, 0, [], []⟩ : Fr).c (.slice none 0 0) (.slice none 0 0)) _ _ hf.out)
      replace hB := Lib.hid (below_setRow' hB.out (Nat.le_succ w.heap.size) ((⟨k, N, 0, [], []⟩ : Fr).c (.slice none 0 0) (.slice none 0 0)))
      clear f1 f2 f3 d1 d2 d3
      go_wp2_with (first
        | (refine wpList_load_row_g rfl 26 _ rfl (w.heap.size + 1) rfl 26 ((⟨k, N, 0, [], []⟩ : Fr).c (.slice none 0 0) (.slice none 0 0)) (0, 0) _ hf.out Try.underlying26 rfl info_frame ?_)
        | (refine wpList_store_row rfl 26 _ _ rfl w.heap.size ((⟨k, N, 0, [], []⟩ : Fr).c (.slice none 0 0) (.slice none 0 0)) rfl rfl 26 _ hs.out info_frame rfl (fr_one _ _ _ _ _ _ _) ?_))
      refine bodyPost_ret (results_row_tmp2 rfl _ _ w.heap.size 26 _ _ _ rfl (setRow_heap _ _ _ _ _ _ hs.out) Try.underlying26 rfl info_frame) rfl ?_
      exact ⟨below_setRow' hB.out (Nat.le_refl _) _, (fun h => by rw [hn.out] at h; cases h), fun f u' h => by
        rw [hn.out] at h
        obtain ⟨e1, e2⟩ := Prod.mk.inj (Option.some.inj h)
        subst e1 e2
        exact ⟨_, _, rfl, heldI_nil _ _, heldS_nil _ _⟩⟩
end Go.Proofs.Ytegffpjhdodldaa

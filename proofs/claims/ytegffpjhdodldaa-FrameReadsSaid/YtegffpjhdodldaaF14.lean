/- Layer 7: Parse: contract of the reference. -/
import Derived.Test.YtegffpjhdodldaaF13
import Derived.Test.YtegffpjhdodldaaL02
namespace Go.Proofs.Ytegffpjhdodldaa
open Go.RowKit Go.Ytegffpjhdodldaa
set_option linter.unusedVariables false
/-- What the reference takes for the frame, before it looks whether it is valid and has these bytes. -/
def cand (l : List Int) : Option Fr :=
  if idsK (ith l 0) = true then (match readC (l.drop 1) 40 32 with
    | none => none
    | some p => if riseF (((l.drop 1).drop p.2).take (p.1 * 32)) p.1 = true then some ⟨ith l 0, 0, p.1, ((l.drop 1).drop p.2).take (p.1 * 32), []⟩ else none)
  else if ith l 0 = 5 then (match readS (l.drop 1) with
    | none => none
    | some q => if q.2 = l.length - 1 then some ⟨ith l 0, 0, 0, [], q.1⟩ else none)
  else (match readF (l.drop 1) with
    | none => none
    | some p => some ⟨ith l 0, p.1, 0, [], []⟩)
theorem cand_of {l : List Int} {g : Fr} (h : parseF l = some g) : cand l = some g := by
  unfold parseF at h
  by_cases h1 : l.length = 0 ∨ 2000 < l.length
  · rw [if_pos h1] at h; cases h
  · rw [if_neg h1] at h
    cases h2 : readR (ith l 0) (l.drop 1) with
    | none => rw [h2] at h; cases h
    | some p =>
      obtain ⟨f, u⟩ := p
      rw [h2] at h
      simp only at h
      by_cases h3 : u = l.length - 1
      · rw [if_pos h3] at h
        obtain rfl := Option.some.inj h
        unfold cand
        unfold readR at h2
        by_cases k1 : numK (ith l 0) = true
        · rw [if_pos k1] at h2
          have k2 := kinds_apart k1
          have k5 : ¬ ith l 0 = 5 := fun e => by rw [e] at k1; cases k1
          rw [if_neg (by rw [k2]; decide), if_neg k5]
          cases h4 : readF (l.drop 1) with
          | none => rw [h4] at h2; cases h2
          | some p =>
            rw [h4] at h2
            exact congrArg some (Prod.mk.inj (Option.some.inj h2)).1
        · rw [if_neg k1] at h2
          by_cases k2 : idsK (ith l 0) = true
          · rw [if_pos k2] at h2 ⊢
            cases h4 : readC (l.drop 1) 40 32 with
            | none => rw [h4] at h2; cases h2
            | some p =>
              rw [h4] at h2
              simp only at h2 ⊢
              by_cases h5 : riseF (((l.drop 1).drop p.2).take (p.1 * 32)) p.1 = true
              · rw [if_pos h5] at h2 ⊢
                exact congrArg some (Prod.mk.inj (Option.some.inj h2)).1
              · rw [if_neg h5] at h2; cases h2
          · rw [if_neg k2] at h2 ⊢
            by_cases k5 : ith l 0 = 5
            · rw [if_pos k5] at h2 ⊢
              cases h4 : readS (l.drop 1) with
              | none => rw [h4] at h2; cases h2
              | some q =>
                rw [h4] at h2
                obtain ⟨e1, e2⟩ := Prod.mk.inj (Option.some.inj h2)
                simp only
                rw [if_pos (e2.trans h3)]
                exact congrArg some e1
            · rw [if_neg k5] at h2; cases h2
      · rw [if_neg h3] at h; cases h
theorem cand_no {l : List Int} (h : ∀ g, cand l = some g → False) : parseF l = none := by
  cases hp : parseF l with
  | none => rfl
  | some g => exact absurd (cand_of hp) (fun e => h g e)
theorem cand_bad {l : List Int} (hl : Bytes l) {f : Fr} (hc : cand l = some f) (h : frOk f = false) : parseF l = none := by
  cases hp : parseF l with
  | none => rfl
  | some g =>
    have e := cand_of hp
    rw [hc] at e
    obtain rfl := Option.some.inj e
    have h2 := (parse_back hl hp).2.1
    rw [h] at h2; cases h2
theorem cand_other {l : List Int} (hl : Bytes l) {f : Fr} (hc : cand l = some f) (h : sameF (frB f) l = false) : parseF l = none := by
  cases hp : parseF l with
  | none => rfl
  | some g =>
    have e := cand_of hp
    rw [hc] at e
    obtain rfl := Option.some.inj e
    have h2 := (parse_back hl hp).1
    rw [h2, sameF_self] at h; cases h
theorem cand_yes {l : List Int} {f : Fr} (h : frOk f = true) (hs : sameF (frB f) l = true) (ff : f.Fit) : parseF l = some f := by
  have e : frB f = l := of_decide_eq_true hs
  rw [← e]
  exact parse_fr ff h
theorem cand_ids {l : List Int} (h : idsK (ith l 0) = true) : cand l = (match readC (l.drop 1) 40 32 with
    | none => none
    | some p => if riseF (((l.drop 1).drop p.2).take (p.1 * 32)) p.1 = true then some ⟨ith l 0, 0, p.1, ((l.drop 1).drop p.2).take (p.1 * 32), []⟩ else none) := by
  unfold cand
  rw [if_pos h]
theorem cand_ops {l : List Int} (h : idsK (ith l 0) = false) (h5 : ith l 0 = 5) : cand l = (match readS (l.drop 1) with
    | none => none
    | some q => if q.2 = l.length - 1 then some ⟨ith l 0, 0, 0, [], q.1⟩ else none) := by
  unfold cand
  rw [if_neg (by rw [h]; decide), if_pos h5]
theorem cand_num {l : List Int} (h : idsK (ith l 0) = false) (h5 : ¬ ith l 0 = 5) : cand l = (match readF (l.drop 1) with
    | none => none
    | some p => some ⟨ith l 0, p.1, 0, [], []⟩) := by
  unfold cand
  rw [if_neg (by rw [h]; decide), if_neg h5]
theorem rids_no {w w' : World} {F : List Int} {n u : Nat} {e : Ending} (h1 : riseF F n = false) (h : rreadIDsPost w F n u e w') : e = .returned (.tuple #[.slice none 0 0, .int .i64 0, .int .i64 12]) ∧ Below w.heap.size w w' := by
  have h2 := h.2
  rw [h1, if_neg (by decide)] at h2
  exact ⟨h2, h.1⟩
theorem rids_yes {w w' : World} {F : List Int} {n u : Nat} {e : Ending} (h1 : riseF F n = true) (h : rreadIDsPost w F n u e w') : ∃ va vc, e = .returned (.tuple #[.slice va n vc, .int .i64 ((u : Nat) : Int), .int .i64 0]) ∧ HeldI w.heap.size w' (.slice va n vc) n F ∧ Below w.heap.size w w' := by
  have h2 := h.2
  rw [h1, if_pos rfl] at h2
  obtain ⟨v, h3, h4⟩ := h2
  obtain ⟨va, vc, rfl⟩ := h4.rd.slice
  exact ⟨va, vc, h3, heldI_own h4, h.1⟩
set_option maxHeartbeats 8000000 in
set_option maxRecDepth 100000 in
theorem rParse_any (b : List Int) (bv : Value) (w : World) (hr : RdB w bv b) (hb : Bytes b) (hl : b.length ≤ 100000) :
    Calls Try.prog 20 #[bv] w (parsePost w b) := by
  obtain ⟨NB, hNB⟩ : ∃ NB, b.length = NB := ⟨_, rfl⟩
  by_cases h0 : NB = 0
  · subst h0
    have hn := Lib.hid (parse_short (l := b) (.inl hNB))
    obtain ⟨W, hW⟩ : ∃ W, W = w.alloc (.cells ((kF 0).c (.slice none 0 0) (.slice none 0 0)) 26) := ⟨_, rfl⟩
    have hs := Lib.hid (show W.heap[w.heap.size]? = some (.cells ((kF 0).c (.slice none 0 0) (.slice none 0 0)) 26 (0, 0)) by rw [hW]; exact heap_alloc_new w _)
    have hB := Lib.hid (show Below w.heap.size w W by rw [hW]; exact (Below.refl w.heap.size w).alloc (Nat.le_refl _) _)
    obtain ⟨ba, bc, rfl⟩ := hr.slice
    rw [hNB]
    clear hr hb hl hNB
    go_enter Try.func20, Try.ntmps20
    go_upto_region 1 with fail
    change Code.wp _ _ _ _ (w.alloc (.cells ((kF 0).c (.slice none 0 0) (.slice none 0 0)) 26))
    rw [← hW]
    clear hW
    go_wp2_with (refine wpList_store_row rfl 26 _ _ rfl w.heap.size ((kF 0).c (.slice none 0 0) (.slice none 0 0)) rfl rfl 26 _ hs.out info_frame rfl (fr_one _ _ _ _ _ _ _) ?_)
    refine bodyPost_ret (results_row_tmp rfl _ _ w.heap.size 26 _ _ _ rfl (setRow_heap _ _ _ _ _ _ hs.out) Try.underlying26 rfl info_frame) rfl ?_
    exact ⟨below_setRow' hB.out (Nat.le_refl _) _, (fun _ => rfl), fun f h => by rw [hn.out] at h; cases h⟩
  rcases hr with ⟨_, _, _, _, he⟩ | ⟨bb, o, bc, rfl, r1, r2, r3, r4⟩
  · rw [he] at hNB; exact absurd hNB.symm (by simpa using h0)
  have hrd : RdB w (.slice (some ⟨bb, o, none⟩) b.length bc) b := .inr ⟨bb, o, bc, rfl, r1, r2, r3, r4⟩
  have hc00 := r4 0 (by omega)
  rw [Nat.add_zero] at hc00
  rw [hNB] at hrd r1 ⊢
  have hx0 := hb 0
  have hbd := bytes_drop b 1 hb
  have hl1 : (b.drop 1).length ≤ 100000 := by rw [List.length_drop]; omega
  have hdl : (b.drop 1).length = NB - 1 := by rw [List.length_drop, hNB]
  have hcn := Lib.hid (fun (h : ∀ g, cand b = some g → False) => cand_no h)
  have hcb := Lib.hid (fun (f : Fr) (h : cand b = some f) (h2 : frOk f = false) => cand_bad hb h h2)
  have hcs := Lib.hid (fun (f : Fr) (h : cand b = some f) (h1 : frOk f = true) (h2 : sameF (frB f) b = false) => cand_other hb h h2)
  have hcy := Lib.hid (fun (f : Fr) (_ : cand b = some f) (h1 : frOk f = true) (h2 : sameF (frB f) b = true) (h3 : f.Fit) => cand_yes (l := b) h1 h2 h3)
  have p1 := Lib.hid (fun h => cand_ids (l := b) h)
  have p2 := Lib.hid (fun h h2 => cand_ops (l := b) h h2)
  have p3 := Lib.hid (fun h h2 => cand_num (l := b) h h2)
  have hbb := Lib.hid hbd
  have hlb := Lib.hid hl1
  have hdl' := Lib.hid hdl
  rw [hNB] at p2
  generalize ith b 0 = k at *
  obtain ⟨W, hW⟩ : ∃ W, W = (w.alloc (.cells ((kF 0).c (.slice none 0 0) (.slice none 0 0)) 26)).alloc (.cells ((kF k).c (.slice none 0 0) (.slice none 0 0)) 26) := ⟨_, rfl⟩
  have hr0 : W.heap[w.heap.size]? = some (.cells ((kF 0).c (.slice none 0 0) (.slice none 0 0)) 26 (0, 0)) := by rw [hW]; exact rowB (heap_alloc_new w _) (below_a _ _) (by simp)
  have hr1 : W.heap[w.heap.size + 1]? = some (.cells ((kF k).c (.slice none 0 0) (.slice none 0 0)) 26 (0, 0)) := by rw [hW]; exact hn2 w _ _
  have hb0 : Below w.heap.size w W := by rw [hW]; exact ((Below.refl w.heap.size w).alloc (Nat.le_refl _) _).alloc (by simp) _
  have hsz : W.heap.size = w.heap.size + 2 := by rw [hW]; simp
  have hc0 : (w.alloc (.cells #[.int .u8 0, .int .u64 0, .slice none 0 0, .slice none 0 0] 26)).cell? ⟨bb, o, none⟩ = some (.int .u8 k) := ((below_a w _).cell (p := (⟨bb, o, none⟩ : Addr)) r3).trans hc00
  have hB := Lib.hid hb0
  have hs := Lib.hid hr0
  have hf := Lib.hid hr1
  have hszh := Lib.hid hsz
  have hrb := Lib.hid (hrd.mono hb0)
  have hrbW := Lib.hid hrd
  have hD := Lib.hid (fun wz => listed_any k wz)
  have hfk := Lib.hid hx0
  have hrr := rdB_from (hrd.mono hb0) hNB 1 (by omega)
  have hle := Lib.hid r1
  have n1 : ¬ NB = 0 := h0
  have n1' : ((NB : Int) == 0) = false := by simpa using n1
  have hlNB := Lib.hid hl
  clear hr0 hr1 hb0 hsz hrd r1 r4 hb hl hx0 hbd hl1 hdl hNB h0 hc00
  rcases Decidable.em (bc = 1) with rfl | hc1
  · have hrx := Lib.hid (show RdB W (.slice (some ⟨bb, o, none⟩) (NB - 1) 0) (b.drop 1) by rw [show NB - 1 = 0 by have := hle.out; omega]; exact hrr.1 rfl)
    clear hrr
    cases hd : idsK k
    · rw [hd] at hD
      by_cases h5 : k = 5
      · subst h5
        replace p2 := p2.out hd rfl
        have hS := Lib.hid (rstrings_any (b.drop 1) _ W hrx.out hbb.out hlb.out)
        cases hre : readS (b.drop 1) with
        | none =>
          rw [hre] at p2
          have hcf := Lib.hid p2
          have hS2 := Lib.hid (hS.out.mono fun e w' h => (show e = .returned (.tuple #[.slice none 0 0, .bool false]) ∧ Below W.heap.size W w' from ⟨h.2.1 hre, h.1⟩))
          clear hS p1 p2 p3 hre hd
          go_enter Try.func20, Try.ntmps20
          go_upto_region 4 with fail
          change Code.wp _ _ _ _ ((w.alloc (.cells ((kF 0).c (.slice none 0 0) (.slice none 0 0)) 26)).alloc (.cells ((kF 5).c (.slice none 0 0) (.slice none 0 0)) 26))
          rw [← hW]
          clear hW
          have f1 := frozen_of_row _ (w.heap.size + 1) 1 _ _ hf.out
          have f2 := frozen_of_row _ (w.heap.size + 1) 2 _ _ hf.out
          have f3 := frozen_of_row _ (w.heap.size + 1) 3 _ _ hf.out
          obtain ⟨d0, d1, d2, d3⟩ := cellsF hf.out
          dsimp only [kF] at d0 d1
          go_upto_region 14 with (first | (go_at_call 22; (with_reducible refine (hD.out _).mono ?_); rintro e w2 ⟨rfl, rfl⟩) | (go_at_call 36; (with_reducible refine (hS2.out).mono ?_); rintro e w3 ⟨rfl, q2⟩; replace hs := Lib.hid (rowB hs.out q2 (Array.getElem?_eq_some_iff.1 hs.out).1); replace hf := Lib.hid (rowB hf.out q2 (Array.getElem?_eq_some_iff.1 hf.out).1); replace hB := Lib.hid (hB.out.trans (q2.mono hB.out.size)); replace hrb := Lib.hid (hrb.out.mono q2); clear q2; clear f1 f2 f3 d0 d1 d2 d3; have f1 := frozen_of_row _ (w.heap.size + 1) 1 _ _ hf.out; have f2 := frozen_of_row _ (w.heap.size + 1) 2 _ _ hf.out; have f3 := frozen_of_row _ (w.heap.size + 1) 3 _ _ hf.out; obtain ⟨d0, d1, d2, d3⟩ := cellsF hf.out; dsimp only [kF] at d0 d1))
          rw [setO hf.out (.slice none 0 0) []]
          replace hs := Lib.hid ((setRow_other _ (w.heap.size + 1) w.heap.size ((⟨5, 0, 0, [], []⟩ : Fr).c (.slice none 0 0) (.slice none 0 0)) (by omega)).trans hs.out)
          replace hf := Lib.hid (setRow_heap _ (w.heap.size + 1) _ ((⟨5, 0, 0, [], []⟩ : Fr).c (.slice none 0 0) (.slice none 0 0)) _ _ hf.out)
          replace hB := Lib.hid (below_setRow' hB.out (Nat.le_succ w.heap.size) ((⟨5, 0, 0, [], []⟩ : Fr).c (.slice none 0 0) (.slice none 0 0)))
          replace hrb := Lib.hid (hrbW.out.mono hB.out)
          clear f1 f2 f3 d0 d1 d2 d3
          have hn := Lib.hid (hcn.out (fun g h => by rw [hcf.out] at h; cases h))
          go_wp2_with (refine wpList_store_row rfl 26 _ _ rfl w.heap.size ((kF 0).c (.slice none 0 0) (.slice none 0 0)) rfl rfl 26 _ hs.out info_frame rfl (fr_one _ _ _ _ _ _ _) ?_)
          refine bodyPost_ret (results_row_tmp rfl _ _ w.heap.size 26 _ _ _ rfl (setRow_heap _ _ _ _ _ _ hs.out) Try.underlying26 rfl info_frame) rfl ?_
          exact ⟨below_setRow' hB.out (Nat.le_refl _) _, (fun _ => rfl), fun f h => by rw [hn.out] at h; cases h⟩
        | some q =>
          obtain ⟨L, u⟩ := q
          rw [hre] at p2
          simp only at p2
          have hS2 := Lib.hid (hS.out.mono fun e w' h => (show ∃ va vc, e = .returned (.tuple #[.slice va L.length vc, .bool (decide (u = (b.drop 1).length))]) ∧ HeldS W.heap.size w' (.slice va L.length vc) L ∧ Below W.heap.size W w' from by
            obtain ⟨v, h1, h2⟩ := h.2.2 L u hre
            obtain ⟨va, vc, rfl⟩ := h2.slice
            exact ⟨va, vc, h1, h2.held, h.1⟩))
          have hfits : L.length ≤ 100000 ∧ (∀ i, Bytes (nthL L i)) ∧ ∀ i, (nthL L i).length ≤ 1000000 := by
            have h6 := readR_back (k := 5) (by decide) hbb.out hlb.out (show readR 5 (b.drop 1) = some (⟨5, 0, 0, [], L⟩, u) by rw [readR_ops rfl rfl rfl, hre])
            exact ⟨h6.2.2.2.2.l, h6.2.2.2.2.L, h6.2.2.2.2.s⟩
          have hL8 := Lib.hid hfits.1
          have hLb := Lib.hid hfits.2.1
          have hL4 := Lib.hid hfits.2.2
          clear hfits
          rw [hdl'.out] at hS2
          by_cases hu : u = NB - 1
          · rw [if_pos hu] at p2
            have hcf := Lib.hid p2
            rw [decide_eq_true hu] at hS2
            clear hS p1 p2 p3 hre hd hu
            go_enter Try.func20, Try.ntmps20
            go_upto_region 4 with fail
            change Code.wp _ _ _ _ ((w.alloc (.cells ((kF 0).c (.slice none 0 0) (.slice none 0 0)) 26)).alloc (.cells ((kF 5).c (.slice none 0 0) (.slice none 0 0)) 26))
            rw [← hW]
            clear hW
            have f1 := frozen_of_row _ (w.heap.size + 1) 1 _ _ hf.out
            have f2 := frozen_of_row _ (w.heap.size + 1) 2 _ _ hf.out
            have f3 := frozen_of_row _ (w.heap.size + 1) 3 _ _ hf.out
            obtain ⟨d0, d1, d2, d3⟩ := cellsF hf.out
            dsimp only [kF] at d0 d1
            go_upto_region 14 with (first | (go_at_call 22; (with_reducible refine (hD.out _).mono ?_); rintro e w2 ⟨rfl, rfl⟩) | (go_at_call 36; (with_reducible refine (hS2.out).mono ?_); rintro e w3 ⟨va, vc, rfl, q3, q2⟩; have hH := Lib.hid q3; replace hs := Lib.hid (rowB hs.out q2 (Array.getElem?_eq_some_iff.1 hs.out).1); replace hf := Lib.hid (rowB hf.out q2 (Array.getElem?_eq_some_iff.1 hf.out).1); replace hB := Lib.hid (hB.out.trans (q2.mono hB.out.size)); replace hrb := Lib.hid (hrb.out.mono q2); clear q2; clear f1 f2 f3 d0 d1 d2 d3; have f1 := frozen_of_row _ (w.heap.size + 1) 1 _ _ hf.out; have f2 := frozen_of_row _ (w.heap.size + 1) 2 _ _ hf.out; have f3 := frozen_of_row _ (w.heap.size + 1) 3 _ _ hf.out; obtain ⟨d0, d1, d2, d3⟩ := cellsF hf.out; dsimp only [kF] at d0 d1; clear q3))
            rw [setO hf.out (.slice va L.length vc) L]
            replace hs := Lib.hid ((setRow_other _ (w.heap.size + 1) w.heap.size ((⟨5, 0, 0, [], L⟩ : Fr).c (.slice none 0 0) (.slice va L.length vc)) (by omega)).trans hs.out)
            replace hf := Lib.hid (setRow_heap _ (w.heap.size + 1) _ ((⟨5, 0, 0, [], L⟩ : Fr).c (.slice none 0 0) (.slice va L.length vc)) _ _ hf.out)
            replace hB := Lib.hid (below_setRow' hB.out (Nat.le_succ w.heap.size) ((⟨5, 0, 0, [], L⟩ : Fr).c (.slice none 0 0) (.slice va L.length vc)))
            replace hrb := Lib.hid (hrbW.out.mono hB.out)
            clear f1 f2 f3 d0 d1 d2 d3
            obtain ⟨wz, hwz⟩ : ∃ wz : World, wz = w3.setRow (w.heap.size + 1) ((⟨5, 0, 0, [], L⟩ : Fr).c (.slice none 0 0) (.slice va L.length vc)) := ⟨_, rfl⟩
            rw [← hwz]
            have hi0 : RdI wz (.slice none 0 0) (⟨5, 0, 0, [], L⟩ : Fr).n (⟨5, 0, 0, [], L⟩ : Fr).F := by rw [hwz]; exact (show RdI _ (.slice none 0 0) 0 [] from .inl ⟨none, 0, rfl, fun _ => rfl, rfl, rfl⟩)
            have ho0 : RdS wz (.slice va L.length vc) (⟨5, 0, 0, [], L⟩ : Fr).L := by rw [hwz]; exact heldS_rd (heldS_setRow hH.out (by have := hszh.out; omega) _)
            have hs0 := hs.out
            have hf0 := hf.out
            have hB0 := hB.out
            have hrb0 := hrb.out
            rw [← hwz] at hs0 hf0 hB0 hrb0
            replace hs := Lib.hid hs0
            replace hf := Lib.hid hf0
            replace hB := Lib.hid hB0
            replace hrb := Lib.hid hrb0
            clear hs0 hf0 hB0 hrb0
            have hiz := Lib.hid hi0
            have hoz := Lib.hid ho0
            have hHz : HeldS W.heap.size wz (.slice va L.length vc) L := by rw [hwz]; exact heldS_setRow hH.out (by have := hszh.out; omega) _
            replace hH := Lib.hid hHz
            clear hi0 ho0 hwz hHz
            have hQ := Lib.hid (Below.refl wz.heap.size wz)
            have ffit := (show (⟨5, 0, 0, [], L⟩ : Fr).Fit from ⟨(by decide : (0 : Int) ≤ 5 ∧ (5 : Int) < 256), (by decide : 0 < 18446744073709551616), Nat.zero_le _, bytes_nil, rfl, hL8.out, hLb.out, hL4.out⟩)
            have hC := Lib.hid (fun (wx : World) (h : Below wz.heap.size wz wx) => rCheckF_any (⟨5, 0, 0, [], L⟩ : Fr) ffit _ _ wx (hiz.out.mono h) (hoz.out.mono h))
            cases hok : frOk (⟨5, 0, 0, [], L⟩ : Fr)
            · rw [chkR_not hok] at hC
              have hn := Lib.hid (hcb.out (⟨5, 0, 0, [], L⟩ : Fr) hcf.out hok)
              clear hok
              go_wp2_with (first
                | (refine wpList_load_row_g rfl 26 _ rfl (w.heap.size + 1) rfl 26 ((⟨5, 0, 0, [], L⟩ : Fr).c (.slice none 0 0) (.slice va L.length vc)) (0, 0) _ hf.out Try.underlying26 rfl info_frame ?_)
                | (go_at_call 16; (with_reducible refine (hC.out _ hQ.out).mono ?_); rintro e w3 ⟨rfl, h3⟩; replace hQ := Lib.hid (hQ.out.trans (Below.mono h3 hQ.out.size)); replace hs := Lib.hid (rowB hs.out h3 (Array.getElem?_eq_some_iff.1 hs.out).1); replace hf := Lib.hid (rowB hf.out h3 (Array.getElem?_eq_some_iff.1 hf.out).1); replace hB := Lib.hid (hB.out.trans (h3.mono hB.out.size)); replace hrb := Lib.hid (hrb.out.mono h3); (try replace hO := Lib.hid (hO.out.mono h3)); (try replace hH := Lib.hid (heldS_mono hH.out h3)); clear h3)
                | (refine wpList_store_row rfl 26 _ _ rfl w.heap.size ((kF 0).c (.slice none 0 0) (.slice none 0 0)) rfl rfl 26 _ hs.out info_frame rfl (fr_one _ _ _ _ _ _ _) ?_))
              refine bodyPost_ret (results_row_tmp rfl _ _ w.heap.size 26 _ _ _ rfl (setRow_heap _ _ _ _ _ _ hs.out) Try.underlying26 rfl info_frame) rfl ?_
              exact ⟨below_setRow' hB.out (Nat.le_refl _) _, (fun _ => rfl), fun f h => by rw [hn.out] at h; cases h⟩
            · rw [chkR_yes hok] at hC
              have hby := Lib.hid (fun (wx : World) (h : Below wz.heap.size wz wx) => rBytesF_any (⟨5, 0, 0, [], L⟩ : Fr) ffit (frOk_parts hok).1 _ _ wx (hiz.out.mono h) (hoz.out.mono h))
              have hlen := frB_short ffit (frOk_parts hok).1
              obtain ⟨ZL, hZL⟩ : ∃ ZL, (frB (⟨5, 0, 0, [], L⟩ : Fr)).length = ZL := ⟨_, rfl⟩
              rw [hZL] at hlen
              have hZL' := Lib.hid hZL
              clear hZL
              have hsb := Lib.hid (fun (va : Value) (wx : World) (ha : RdB wx va (frB (⟨5, 0, 0, [], L⟩ : Fr))) (hb : RdB wx (.slice (some ⟨bb, o, none⟩) NB 1) b) => (same_any va _ (frB (⟨5, 0, 0, [], L⟩ : Fr)) b wx (by rw [hZL'.out]; omega) ha hb).mono fun e w' ⟨q1, q2⟩ => (show e = Ending.returned (.bool (sameF (frB (⟨5, 0, 0, [], L⟩ : Fr)) b)) ∧ Below wx.heap.size wx w' from ⟨q1, q2.below (Below.refl _ _)⟩))
              cases hsame : sameF (frB (⟨5, 0, 0, [], L⟩ : Fr)) b
              · have hn := Lib.hid (hcs.out (⟨5, 0, 0, [], L⟩ : Fr) hcf.out hok hsame)
                rw [hsame] at hsb
                clear hok hsame
                go_wp2_with (first
                  | (refine wpList_load_row_g rfl 26 _ rfl (w.heap.size + 1) rfl 26 ((⟨5, 0, 0, [], L⟩ : Fr).c (.slice none 0 0) (.slice va L.length vc)) (0, 0) _ hf.out Try.underlying26 rfl info_frame ?_)
                  | (go_at_call 16; (with_reducible refine (hC.out _ hQ.out).mono ?_); rintro e w3 ⟨rfl, h3⟩; replace hQ := Lib.hid (hQ.out.trans (Below.mono h3 hQ.out.size)); replace hs := Lib.hid (rowB hs.out h3 (Array.getElem?_eq_some_iff.1 hs.out).1); replace hf := Lib.hid (rowB hf.out h3 (Array.getElem?_eq_some_iff.1 hf.out).1); replace hB := Lib.hid (hB.out.trans (h3.mono hB.out.size)); replace hrb := Lib.hid (hrb.out.mono h3); (try replace hO := Lib.hid (hO.out.mono h3)); (try replace hH := Lib.hid (heldS_mono hH.out h3)); clear h3)
                  | (go_at_call 29; (with_reducible refine (hby.out _ hQ.out).mono ?_); rintro e w3 ⟨sv, rfl, hO0, h3⟩; replace hQ := Lib.hid (hQ.out.trans (Below.mono h3 hQ.out.size)); replace hs := Lib.hid (rowB hs.out h3 (Array.getElem?_eq_some_iff.1 hs.out).1); replace hf := Lib.hid (rowB hf.out h3 (Array.getElem?_eq_some_iff.1 hf.out).1); replace hB := Lib.hid (hB.out.trans (h3.mono hB.out.size)); replace hrb := Lib.hid (hrb.out.mono h3); (try replace hO := Lib.hid (hO.out.mono h3)); (try replace hH := Lib.hid (heldS_mono hH.out h3)); clear h3; have hO := Lib.hid hO0.rd; obtain ⟨sa, sc, rfl⟩ := own_slice hO0 _ hZL'.out; clear hO0)
                  | (go_at_call 17; (with_reducible refine (hsb.out _ _ hO.out hrb.out).mono ?_); rintro e w3 ⟨rfl, h3⟩; replace hQ := Lib.hid (hQ.out.trans (Below.mono h3 hQ.out.size)); replace hs := Lib.hid (rowB hs.out h3 (Array.getElem?_eq_some_iff.1 hs.out).1); replace hf := Lib.hid (rowB hf.out h3 (Array.getElem?_eq_some_iff.1 hf.out).1); replace hB := Lib.hid (hB.out.trans (h3.mono hB.out.size)); replace hrb := Lib.hid (hrb.out.mono h3); (try replace hO := Lib.hid (hO.out.mono h3)); (try replace hH := Lib.hid (heldS_mono hH.out h3)); clear h3)
                  | (refine wpList_store_row rfl 26 _ _ rfl w.heap.size ((kF 0).c (.slice none 0 0) (.slice none 0 0)) rfl rfl 26 _ hs.out info_frame rfl (fr_one _ _ _ _ _ _ _) ?_))
                refine bodyPost_ret (results_row_tmp rfl _ _ w.heap.size 26 _ _ _ rfl (setRow_heap _ _ _ _ _ _ hs.out) Try.underlying26 rfl info_frame) rfl ?_
                exact ⟨below_setRow' hB.out (Nat.le_refl _) _, (fun _ => rfl), fun f h => by rw [hn.out] at h; cases h⟩
              · have hn := Lib.hid (hcy.out (⟨5, 0, 0, [], L⟩ : Fr) hcf.out hok hsame ffit)
                rw [hsame] at hsb
                clear hok hsame
                go_wp2_with (first
                  | (refine wpList_load_row_g rfl 26 _ rfl (w.heap.size + 1) rfl 26 ((⟨5, 0, 0, [], L⟩ : Fr).c (.slice none 0 0) (.slice va L.length vc)) (0, 0) _ hf.out Try.underlying26 rfl info_frame ?_)
                  | (go_at_call 16; (with_reducible refine (hC.out _ hQ.out).mono ?_); rintro e w3 ⟨rfl, h3⟩; replace hQ := Lib.hid (hQ.out.trans (Below.mono h3 hQ.out.size)); replace hs := Lib.hid (rowB hs.out h3 (Array.getElem?_eq_some_iff.1 hs.out).1); replace hf := Lib.hid (rowB hf.out h3 (Array.getElem?_eq_some_iff.1 hf.out).1); replace hB := Lib.hid (hB.out.trans (h3.mono hB.out.size)); replace hrb := Lib.hid (hrb.out.mono h3); (try replace hO := Lib.hid (hO.out.mono h3)); (try replace hH := Lib.hid (heldS_mono hH.out h3)); clear h3)
                  | (go_at_call 29; (with_reducible refine (hby.out _ hQ.out).mono ?_); rintro e w3 ⟨sv, rfl, hO0, h3⟩; replace hQ := Lib.hid (hQ.out.trans (Below.mono h3 hQ.out.size)); replace hs := Lib.hid (rowB hs.out h3 (Array.getElem?_eq_some_iff.1 hs.out).1); replace hf := Lib.hid (rowB hf.out h3 (Array.getElem?_eq_some_iff.1 hf.out).1); replace hB := Lib.hid (hB.out.trans (h3.mono hB.out.size)); replace hrb := Lib.hid (hrb.out.mono h3); (try replace hO := Lib.hid (hO.out.mono h3)); (try replace hH := Lib.hid (heldS_mono hH.out h3)); clear h3; have hO := Lib.hid hO0.rd; obtain ⟨sa, sc, rfl⟩ := own_slice hO0 _ hZL'.out; clear hO0)
                  | (go_at_call 17; (with_reducible refine (hsb.out _ _ hO.out hrb.out).mono ?_); rintro e w3 ⟨rfl, h3⟩; replace hQ := Lib.hid (hQ.out.trans (Below.mono h3 hQ.out.size)); replace hs := Lib.hid (rowB hs.out h3 (Array.getElem?_eq_some_iff.1 hs.out).1); replace hf := Lib.hid (rowB hf.out h3 (Array.getElem?_eq_some_iff.1 hf.out).1); replace hB := Lib.hid (hB.out.trans (h3.mono hB.out.size)); replace hrb := Lib.hid (hrb.out.mono h3); (try replace hO := Lib.hid (hO.out.mono h3)); (try replace hH := Lib.hid (heldS_mono hH.out h3)); clear h3)
                  | (refine wpList_store_row rfl 26 _ _ rfl w.heap.size ((⟨5, 0, 0, [], L⟩ : Fr).c (.slice none 0 0) (.slice va L.length vc)) rfl rfl 26 _ hs.out info_frame rfl (fr_one _ _ _ _ _ _ _) ?_))
                refine bodyPost_ret (results_row_tmp rfl _ _ w.heap.size 26 _ _ _ rfl (setRow_heap _ _ _ _ _ _ hs.out) Try.underlying26 rfl info_frame) rfl ?_
                exact ⟨below_setRow' hB.out (Nat.le_refl _) _, (fun h => by rw [hn.out] at h; cases h), fun f' h => by
                  rw [hn.out] at h
                  obtain rfl := Option.some.inj h
                  exact ⟨_, _, rfl, heldI_nil _ _, heldS_lower (heldS_setRow hH.out (by have := hszh.out; omega) _) (by have := hszh.out; omega)⟩⟩
          · rw [if_neg hu] at p2
            have hcf := Lib.hid p2
            rw [decide_eq_false hu] at hS2
            clear hS p1 p2 p3 hre hd hu
            go_enter Try.func20, Try.ntmps20
            go_upto_region 4 with fail
            change Code.wp _ _ _ _ ((w.alloc (.cells ((kF 0).c (.slice none 0 0) (.slice none 0 0)) 26)).alloc (.cells ((kF 5).c (.slice none 0 0) (.slice none 0 0)) 26))
            rw [← hW]
            clear hW
            have f1 := frozen_of_row _ (w.heap.size + 1) 1 _ _ hf.out
            have f2 := frozen_of_row _ (w.heap.size + 1) 2 _ _ hf.out
            have f3 := frozen_of_row _ (w.heap.size + 1) 3 _ _ hf.out
            obtain ⟨d0, d1, d2, d3⟩ := cellsF hf.out
            dsimp only [kF] at d0 d1
            go_upto_region 14 with (first | (go_at_call 22; (with_reducible refine (hD.out _).mono ?_); rintro e w2 ⟨rfl, rfl⟩) | (go_at_call 36; (with_reducible refine (hS2.out).mono ?_); rintro e w3 ⟨va, vc, rfl, q3, q2⟩; replace hs := Lib.hid (rowB hs.out q2 (Array.getElem?_eq_some_iff.1 hs.out).1); replace hf := Lib.hid (rowB hf.out q2 (Array.getElem?_eq_some_iff.1 hf.out).1); replace hB := Lib.hid (hB.out.trans (q2.mono hB.out.size)); replace hrb := Lib.hid (hrb.out.mono q2); clear q2; clear f1 f2 f3 d0 d1 d2 d3; have f1 := frozen_of_row _ (w.heap.size + 1) 1 _ _ hf.out; have f2 := frozen_of_row _ (w.heap.size + 1) 2 _ _ hf.out; have f3 := frozen_of_row _ (w.heap.size + 1) 3 _ _ hf.out; obtain ⟨d0, d1, d2, d3⟩ := cellsF hf.out; dsimp only [kF] at d0 d1; clear q3))
            rw [setO hf.out (.slice va L.length vc) L]
            replace hs := Lib.hid ((setRow_other _ (w.heap.size + 1) w.heap.size ((⟨5, 0, 0, [], L⟩ : Fr).c (.slice none 0 0) (.slice va L.length vc)) (by omega)).trans hs.out)
            replace hf := Lib.hid (setRow_heap _ (w.heap.size + 1) _ ((⟨5, 0, 0, [], L⟩ : Fr).c (.slice none 0 0) (.slice va L.length vc)) _ _ hf.out)
            replace hB := Lib.hid (below_setRow' hB.out (Nat.le_succ w.heap.size) ((⟨5, 0, 0, [], L⟩ : Fr).c (.slice none 0 0) (.slice va L.length vc)))
            replace hrb := Lib.hid (hrbW.out.mono hB.out)
            clear f1 f2 f3 d0 d1 d2 d3
            have hn := Lib.hid (hcn.out (fun g h => by rw [hcf.out] at h; cases h))
            go_wp2_with (refine wpList_store_row rfl 26 _ _ rfl w.heap.size ((kF 0).c (.slice none 0 0) (.slice none 0 0)) rfl rfl 26 _ hs.out info_frame rfl (fr_one _ _ _ _ _ _ _) ?_)
            refine bodyPost_ret (results_row_tmp rfl _ _ w.heap.size 26 _ _ _ rfl (setRow_heap _ _ _ _ _ _ hs.out) Try.underlying26 rfl info_frame) rfl ?_
            exact ⟨below_setRow' hB.out (Nat.le_refl _) _, (fun _ => rfl), fun f h => by rw [hn.out] at h; cases h⟩
      · replace p3 := p3.out hd h5
        have k5 : (k == 5) = false := by simpa using h5
        have hS := Lib.hid (rreadNumber_any (b.drop 1) _ W hrx.out hbb.out (by have := hlb.out; omega))
        cases hre : readF (b.drop 1) with
        | none =>
          rw [hre] at p3
          have hcf := Lib.hid p3
          obtain ⟨e1, e2, e3⟩ := rd_none hre
          have hS2 := Lib.hid (hS.out.mono fun e w' h => (show e = .returned (.tuple #[.int .u64 ((0 : Nat) : Int), .int .i64 0, .int .i64 12]) ∧ Below W.heap.size W w' from ⟨by rw [h.1, e1, e2, e3]; rfl, h.2⟩))
          clear hS p1 p2 p3 hre hd e1 e2 e3
          go_enter Try.func20, Try.ntmps20
          go_upto_region 4 with fail
          change Code.wp _ _ _ _ ((w.alloc (.cells ((kF 0).c (.slice none 0 0) (.slice none 0 0)) 26)).alloc (.cells ((kF k).c (.slice none 0 0) (.slice none 0 0)) 26))
          rw [← hW]
          clear hW
          have f1 := frozen_of_row _ (w.heap.size + 1) 1 _ _ hf.out
          have f2 := frozen_of_row _ (w.heap.size + 1) 2 _ _ hf.out
          have f3 := frozen_of_row _ (w.heap.size + 1) 3 _ _ hf.out
          obtain ⟨d0, d1, d2, d3⟩ := cellsF hf.out
          dsimp only [kF] at d0 d1
          go_upto_region 7 with (first | (go_at_call 22; (with_reducible refine (hD.out _).mono ?_); rintro e w2 ⟨rfl, rfl⟩) | (go_at_call 37; (with_reducible refine (hS2.out).mono ?_); rintro e w3 ⟨rfl, q2⟩; replace hs := Lib.hid (rowB hs.out q2 (Array.getElem?_eq_some_iff.1 hs.out).1); replace hf := Lib.hid (rowB hf.out q2 (Array.getElem?_eq_some_iff.1 hf.out).1); replace hB := Lib.hid (hB.out.trans (q2.mono hB.out.size)); replace hrb := Lib.hid (hrb.out.mono q2); clear q2; clear f1 f2 f3 d0 d1 d2 d3; have f1 := frozen_of_row _ (w.heap.size + 1) 1 _ _ hf.out; have f2 := frozen_of_row _ (w.heap.size + 1) 2 _ _ hf.out; have f3 := frozen_of_row _ (w.heap.size + 1) 3 _ _ hf.out; obtain ⟨d0, d1, d2, d3⟩ := cellsF hf.out; dsimp only [kF] at d0 d1))
          rw [(show w3.setCell ⟨w.heap.size + 1, 1, none⟩ (.int .u64 0) = w3.setRow (w.heap.size + 1) ((⟨k, 0, 0, [], []⟩ : Fr).c (.slice none 0 0) (.slice none 0 0)) from setN hf.out 0)]
          replace hs := Lib.hid ((setRow_other _ (w.heap.size + 1) w.heap.size ((⟨k, 0, 0, [], []⟩ : Fr).c (.slice none 0 0) (.slice none 0 0)) (by omega)).trans hs.out)
          replace hf := Lib.hid (setRow_heap _ (w.heap.size + 1) _ ((⟨k, 0, 0, [], []⟩ : Fr).c (.slice none 0 0) (.slice none 0 0)) _ _ hf.out)
          replace hB := Lib.hid (below_setRow' hB.out (Nat.le_succ w.heap.size) ((⟨k, 0, 0, [], []⟩ : Fr).c (.slice none 0 0) (.slice none 0 0)))
          replace hrb := Lib.hid (hrbW.out.mono hB.out)
          clear f1 f2 f3 d0 d1 d2 d3
          go_upto_region 14 with fail
          have hn := Lib.hid (hcn.out (fun g h => by rw [hcf.out] at h; cases h))
          go_wp2_with (refine wpList_store_row rfl 26 _ _ rfl w.heap.size ((kF 0).c (.slice none 0 0) (.slice none 0 0)) rfl rfl 26 _ hs.out info_frame rfl (fr_one _ _ _ _ _ _ _) ?_)
          refine bodyPost_ret (results_row_tmp rfl _ _ w.heap.size 26 _ _ _ rfl (setRow_heap _ _ _ _ _ _ hs.out) Try.underlying26 rfl info_frame) rfl ?_
          exact ⟨below_setRow' hB.out (Nat.le_refl _) _, (fun _ => rfl), fun f h => by rw [hn.out] at h; cases h⟩
        | some q =>
          obtain ⟨N, u⟩ := q
          rw [hre] at p3
          have hcf := Lib.hid p3
          obtain ⟨e1, e2, e3⟩ := rd_some hre
          have hN64 := Lib.hid (readF_some hbb.out hre).1
          have hS2 := Lib.hid (hS.out.mono fun e w' h => (show e = .returned (.tuple #[.int .u64 ((N : Nat) : Int), .int .i64 ((u : Nat) : Int), .int .i64 0]) ∧ Below W.heap.size W w' from ⟨by rw [h.1, e1, e2, e3], h.2⟩))
          clear hS p1 p2 p3 hre hd e1 e2 e3
          go_enter Try.func20, Try.ntmps20
          go_upto_region 4 with fail
          change Code.wp _ _ _ _ ((w.alloc (.cells ((kF 0).c (.slice none 0 0) (.slice none 0 0)) 26)).alloc (.cells ((kF k).c (.slice none 0 0) (.slice none 0 0)) 26))
          rw [← hW]
          clear hW
          have f1 := frozen_of_row _ (w.heap.size + 1) 1 _ _ hf.out
          have f2 := frozen_of_row _ (w.heap.size + 1) 2 _ _ hf.out
          have f3 := frozen_of_row _ (w.heap.size + 1) 3 _ _ hf.out
          obtain ⟨d0, d1, d2, d3⟩ := cellsF hf.out
          dsimp only [kF] at d0 d1
          go_upto_region 7 with (first | (go_at_call 22; (with_reducible refine (hD.out _).mono ?_); rintro e w2 ⟨rfl, rfl⟩) | (go_at_call 37; (with_reducible refine (hS2.out).mono ?_); rintro e w3 ⟨rfl, q2⟩; replace hs := Lib.hid (rowB hs.out q2 (Array.getElem?_eq_some_iff.1 hs.out).1); replace hf := Lib.hid (rowB hf.out q2 (Array.getElem?_eq_some_iff.1 hf.out).1); replace hB := Lib.hid (hB.out.trans (q2.mono hB.out.size)); replace hrb := Lib.hid (hrb.out.mono q2); clear q2; clear f1 f2 f3 d0 d1 d2 d3; have f1 := frozen_of_row _ (w.heap.size + 1) 1 _ _ hf.out; have f2 := frozen_of_row _ (w.heap.size + 1) 2 _ _ hf.out; have f3 := frozen_of_row _ (w.heap.size + 1) 3 _ _ hf.out; obtain ⟨d0, d1, d2, d3⟩ := cellsF hf.out; dsimp only [kF] at d0 d1))
          rw [setN hf.out N]
          replace hs := Lib.hid ((setRow_other _ (w.heap.size + 1) w.heap.size ((⟨k, N, 0, [], []⟩ : Fr).c (.slice none 0 0) (.slice none 0 0)) (by omega)).trans hs.out)
          replace hf := Lib.hid (setRow_heap _ (w.heap.size + 1) _ ((⟨k, N, 0, [], []⟩ : Fr).c (.slice none 0 0) (.slice none 0 0)) _ _ hf.out)
          replace hB := Lib.hid (below_setRow' hB.out (Nat.le_succ w.heap.size) ((⟨k, N, 0, [], []⟩ : Fr).c (.slice none 0 0) (.slice none 0 0)))
          replace hrb := Lib.hid (hrbW.out.mono hB.out)
          clear f1 f2 f3 d0 d1 d2 d3
          go_upto_region 14 with fail
          obtain ⟨wz, hwz⟩ : ∃ wz : World, wz = w3.setRow (w.heap.size + 1) ((⟨k, N, 0, [], []⟩ : Fr).c (.slice none 0 0) (.slice none 0 0)) := ⟨_, rfl⟩
          rw [← hwz]
          have hi0 : RdI wz (.slice none 0 0) (⟨k, N, 0, [], []⟩ : Fr).n (⟨k, N, 0, [], []⟩ : Fr).F := by rw [hwz]; exact (show RdI _ (.slice none 0 0) 0 [] from .inl ⟨none, 0, rfl, fun _ => rfl, rfl, rfl⟩)
          have ho0 : RdS wz (.slice none 0 0) (⟨k, N, 0, [], []⟩ : Fr).L := by rw [hwz]; exact RdS.nil _
          have hs0 := hs.out
          have hf0 := hf.out
          have hB0 := hB.out
          have hrb0 := hrb.out
          rw [← hwz] at hs0 hf0 hB0 hrb0
          replace hs := Lib.hid hs0
          replace hf := Lib.hid hf0
          replace hB := Lib.hid hB0
          replace hrb := Lib.hid hrb0
          clear hs0 hf0 hB0 hrb0
          have hiz := Lib.hid hi0
          have hoz := Lib.hid ho0
          clear hi0 ho0 hwz
          have hQ := Lib.hid (Below.refl wz.heap.size wz)
          have ffit := (show (⟨k, N, 0, [], []⟩ : Fr).Fit from ⟨hfk.out, hN64.out, Nat.zero_le _, bytes_nil, rfl, Nat.zero_le _, (fun i => by rw [num_nil]; exact bytes_nil), fun i => by rw [num_nil]; simp⟩)
          have hC := Lib.hid (fun (wx : World) (h : Below wz.heap.size wz wx) => rCheckF_any (⟨k, N, 0, [], []⟩ : Fr) ffit _ _ wx (hiz.out.mono h) (hoz.out.mono h))
          cases hok : frOk (⟨k, N, 0, [], []⟩ : Fr)
          · rw [chkR_not hok] at hC
            have hn := Lib.hid (hcb.out (⟨k, N, 0, [], []⟩ : Fr) hcf.out hok)
            clear hok
            go_wp2_with (first
              | (refine wpList_load_row_g rfl 26 _ rfl (w.heap.size + 1) rfl 26 ((⟨k, N, 0, [], []⟩ : Fr).c (.slice none 0 0) (.slice none 0 0)) (0, 0) _ hf.out Try.underlying26 rfl info_frame ?_)
              | (go_at_call 16; (with_reducible refine (hC.out _ hQ.out).mono ?_); rintro e w3 ⟨rfl, h3⟩; replace hQ := Lib.hid (hQ.out.trans (Below.mono h3 hQ.out.size)); replace hs := Lib.hid (rowB hs.out h3 (Array.getElem?_eq_some_iff.1 hs.out).1); replace hf := Lib.hid (rowB hf.out h3 (Array.getElem?_eq_some_iff.1 hf.out).1); replace hB := Lib.hid (hB.out.trans (h3.mono hB.out.size)); replace hrb := Lib.hid (hrb.out.mono h3); (try replace hO := Lib.hid (hO.out.mono h3)); clear h3)
              | (refine wpList_store_row rfl 26 _ _ rfl w.heap.size ((kF 0).c (.slice none 0 0) (.slice none 0 0)) rfl rfl 26 _ hs.out info_frame rfl (fr_one _ _ _ _ _ _ _) ?_))
            refine bodyPost_ret (results_row_tmp rfl _ _ w.heap.size 26 _ _ _ rfl (setRow_heap _ _ _ _ _ _ hs.out) Try.underlying26 rfl info_frame) rfl ?_
            exact ⟨below_setRow' hB.out (Nat.le_refl _) _, (fun _ => rfl), fun f h => by rw [hn.out] at h; cases h⟩
          · rw [chkR_yes hok] at hC
            have hby := Lib.hid (fun (wx : World) (h : Below wz.heap.size wz wx) => rBytesF_any (⟨k, N, 0, [], []⟩ : Fr) ffit (frOk_parts hok).1 _ _ wx (hiz.out.mono h) (hoz.out.mono h))
            have hlen := frB_short ffit (frOk_parts hok).1
            obtain ⟨ZL, hZL⟩ : ∃ ZL, (frB (⟨k, N, 0, [], []⟩ : Fr)).length = ZL := ⟨_, rfl⟩
            rw [hZL] at hlen
            have hZL' := Lib.hid hZL
            clear hZL
            have hsb := Lib.hid (fun (va : Value) (wx : World) (ha : RdB wx va (frB (⟨k, N, 0, [], []⟩ : Fr))) (hb : RdB wx (.slice (some ⟨bb, o, none⟩) NB 1) b) => (same_any va _ (frB (⟨k, N, 0, [], []⟩ : Fr)) b wx (by rw [hZL'.out]; omega) ha hb).mono fun e w' ⟨q1, q2⟩ => (show e = Ending.returned (.bool (sameF (frB (⟨k, N, 0, [], []⟩ : Fr)) b)) ∧ Below wx.heap.size wx w' from ⟨q1, q2.below (Below.refl _ _)⟩))
            cases hsame : sameF (frB (⟨k, N, 0, [], []⟩ : Fr)) b
            · have hn := Lib.hid (hcs.out (⟨k, N, 0, [], []⟩ : Fr) hcf.out hok hsame)
              rw [hsame] at hsb
              clear hok hsame
              go_wp2_with (first
                | (refine wpList_load_row_g rfl 26 _ rfl (w.heap.size + 1) rfl 26 ((⟨k, N, 0, [], []⟩ : Fr).c (.slice none 0 0) (.slice none 0 0)) (0, 0) _ hf.out Try.underlying26 rfl info_frame ?_)
                | (go_at_call 16; (with_reducible refine (hC.out _ hQ.out).mono ?_); rintro e w3 ⟨rfl, h3⟩; replace hQ := Lib.hid (hQ.out.trans (Below.mono h3 hQ.out.size)); replace hs := Lib.hid (rowB hs.out h3 (Array.getElem?_eq_some_iff.1 hs.out).1); replace hf := Lib.hid (rowB hf.out h3 (Array.getElem?_eq_some_iff.1 hf.out).1); replace hB := Lib.hid (hB.out.trans (h3.mono hB.out.size)); replace hrb := Lib.hid (hrb.out.mono h3); (try replace hO := Lib.hid (hO.out.mono h3)); clear h3)
                | (go_at_call 29; (with_reducible refine (hby.out _ hQ.out).mono ?_); rintro e w3 ⟨sv, rfl, hO0, h3⟩; replace hQ := Lib.hid (hQ.out.trans (Below.mono h3 hQ.out.size)); replace hs := Lib.hid (rowB hs.out h3 (Array.getElem?_eq_some_iff.1 hs.out).1); replace hf := Lib.hid (rowB hf.out h3 (Array.getElem?_eq_some_iff.1 hf.out).1); replace hB := Lib.hid (hB.out.trans (h3.mono hB.out.size)); replace hrb := Lib.hid (hrb.out.mono h3); (try replace hO := Lib.hid (hO.out.mono h3)); clear h3; have hO := Lib.hid hO0.rd; obtain ⟨sa, sc, rfl⟩ := own_slice hO0 _ hZL'.out; clear hO0)
                | (go_at_call 17; (with_reducible refine (hsb.out _ _ hO.out hrb.out).mono ?_); rintro e w3 ⟨rfl, h3⟩; replace hQ := Lib.hid (hQ.out.trans (Below.mono h3 hQ.out.size)); replace hs := Lib.hid (rowB hs.out h3 (Array.getElem?_eq_some_iff.1 hs.out).1); replace hf := Lib.hid (rowB hf.out h3 (Array.getElem?_eq_some_iff.1 hf.out).1); replace hB := Lib.hid (hB.out.trans (h3.mono hB.out.size)); replace hrb := Lib.hid (hrb.out.mono h3); (try replace hO := Lib.hid (hO.out.mono h3)); clear h3)
                | (refine wpList_store_row rfl 26 _ _ rfl w.heap.size ((kF 0).c (.slice none 0 0) (.slice none 0 0)) rfl rfl 26 _ hs.out info_frame rfl (fr_one _ _ _ _ _ _ _) ?_))
              refine bodyPost_ret (results_row_tmp rfl _ _ w.heap.size 26 _ _ _ rfl (setRow_heap _ _ _ _ _ _ hs.out) Try.underlying26 rfl info_frame) rfl ?_
              exact ⟨below_setRow' hB.out (Nat.le_refl _) _, (fun _ => rfl), fun f h => by rw [hn.out] at h; cases h⟩
            · have hn := Lib.hid (hcy.out (⟨k, N, 0, [], []⟩ : Fr) hcf.out hok hsame ffit)
              rw [hsame] at hsb
              clear hok hsame
              go_wp2_with (first
                | (refine wpList_load_row_g rfl 26 _ rfl (w.heap.size + 1) rfl 26 ((⟨k, N, 0, [], []⟩ : Fr).c (.slice none 0 0) (.slice none 0 0)) (0, 0) _ hf.out Try.underlying26 rfl info_frame ?_)
                | (go_at_call 16; (with_reducible refine (hC.out _ hQ.out).mono ?_); rintro e w3 ⟨rfl, h3⟩; replace hQ := Lib.hid (hQ.out.trans (Below.mono h3 hQ.out.size)); replace hs := Lib.hid (rowB hs.out h3 (Array.getElem?_eq_some_iff.1 hs.out).1); replace hf := Lib.hid (rowB hf.out h3 (Array.getElem?_eq_some_iff.1 hf.out).1); replace hB := Lib.hid (hB.out.trans (h3.mono hB.out.size)); replace hrb := Lib.hid (hrb.out.mono h3); (try replace hO := Lib.hid (hO.out.mono h3)); clear h3)
                | (go_at_call 29; (with_reducible refine (hby.out _ hQ.out).mono ?_); rintro e w3 ⟨sv, rfl, hO0, h3⟩; replace hQ := Lib.hid (hQ.out.trans (Below.mono h3 hQ.out.size)); replace hs := Lib.hid (rowB hs.out h3 (Array.getElem?_eq_some_iff.1 hs.out).1); replace hf := Lib.hid (rowB hf.out h3 (Array.getElem?_eq_some_iff.1 hf.out).1); replace hB := Lib.hid (hB.out.trans (h3.mono hB.out.size)); replace hrb := Lib.hid (hrb.out.mono h3); (try replace hO := Lib.hid (hO.out.mono h3)); clear h3; have hO := Lib.hid hO0.rd; obtain ⟨sa, sc, rfl⟩ := own_slice hO0 _ hZL'.out; clear hO0)
                | (go_at_call 17; (with_reducible refine (hsb.out _ _ hO.out hrb.out).mono ?_); rintro e w3 ⟨rfl, h3⟩; replace hQ := Lib.hid (hQ.out.trans (Below.mono h3 hQ.out.size)); replace hs := Lib.hid (rowB hs.out h3 (Array.getElem?_eq_some_iff.1 hs.out).1); replace hf := Lib.hid (rowB hf.out h3 (Array.getElem?_eq_some_iff.1 hf.out).1); replace hB := Lib.hid (hB.out.trans (h3.mono hB.out.size)); replace hrb := Lib.hid (hrb.out.mono h3); (try replace hO := Lib.hid (hO.out.mono h3)); clear h3)
                | (refine wpList_store_row rfl 26 _ _ rfl w.heap.size ((⟨k, N, 0, [], []⟩ : Fr).c (.slice none 0 0) (.slice none 0 0)) rfl rfl 26 _ hs.out info_frame rfl (fr_one _ _ _ _ _ _ _) ?_))
              refine bodyPost_ret (results_row_tmp rfl _ _ w.heap.size 26 _ _ _ rfl (setRow_heap _ _ _ _ _ _ hs.out) Try.underlying26 rfl info_frame) rfl ?_
              exact ⟨below_setRow' hB.out (Nat.le_refl _) _, (fun h => by rw [hn.out] at h; cases h), fun f' h => by
                rw [hn.out] at h
                obtain rfl := Option.some.inj h
                exact ⟨_, _, rfl, heldI_nil _ _, heldS_nil _ _⟩⟩
    · rw [hd] at hD
      replace p1 := p1.out hd
      cases hre : readC (b.drop 1) 40 32 with
      | none =>
        rw [hre] at p1
        have hcf := Lib.hid p1
        have hS2 := Lib.hid (rreadIDs_no (b.drop 1) _ 40 (by decide) (by decide) W hrx.out hbb.out (by have := hlb.out; omega) hre)
        clear p1 p2 p3 hre hd
        go_enter Try.func20, Try.ntmps20
        go_upto_region 4 with fail
        change Code.wp _ _ _ _ ((w.alloc (.cells ((kF 0).c (.slice none 0 0) (.slice none 0 0)) 26)).alloc (.cells ((kF k).c (.slice none 0 0) (.slice none 0 0)) 26))
        rw [← hW]
        clear hW
        have f1 := frozen_of_row _ (w.heap.size + 1) 1 _ _ hf.out
        have f2 := frozen_of_row _ (w.heap.size + 1) 2 _ _ hf.out
        have f3 := frozen_of_row _ (w.heap.size + 1) 3 _ _ hf.out
        obtain ⟨d0, d1, d2, d3⟩ := cellsF hf.out
        dsimp only [kF] at d0 d1
        go_upto_region 11 with (first | (go_at_call 22; (with_reducible refine (hD.out _).mono ?_); rintro e w2 ⟨rfl, rfl⟩) | (go_at_call 35; (with_reducible refine (hS2.out).mono ?_); rintro e w3 ⟨rfl, q2⟩; replace hs := Lib.hid (rowB hs.out q2 (Array.getElem?_eq_some_iff.1 hs.out).1); replace hf := Lib.hid (rowB hf.out q2 (Array.getElem?_eq_some_iff.1 hf.out).1); replace hB := Lib.hid (hB.out.trans (q2.mono hB.out.size)); replace hrb := Lib.hid (hrb.out.mono q2); clear q2; clear f1 f2 f3 d0 d1 d2 d3; have f1 := frozen_of_row _ (w.heap.size + 1) 1 _ _ hf.out; have f2 := frozen_of_row _ (w.heap.size + 1) 2 _ _ hf.out; have f3 := frozen_of_row _ (w.heap.size + 1) 3 _ _ hf.out; obtain ⟨d0, d1, d2, d3⟩ := cellsF hf.out; dsimp only [kF] at d0 d1))
        rw [setI hf.out (.slice none 0 0) 0 []]
        replace hs := Lib.hid ((setRow_other _ (w.heap.size + 1) w.heap.size ((⟨k, 0, 0, [], []⟩ : Fr).c (.slice none 0 0) (.slice none 0 0)) (by omega)).trans hs.out)
        replace hf := Lib.hid (setRow_heap _ (w.heap.size + 1) _ ((⟨k, 0, 0, [], []⟩ : Fr).c (.slice none 0 0) (.slice none 0 0)) _ _ hf.out)
        replace hB := Lib.hid (below_setRow' hB.out (Nat.le_succ w.heap.size) ((⟨k, 0, 0, [], []⟩ : Fr).c (.slice none 0 0) (.slice none 0 0)))
        replace hrb := Lib.hid (hrbW.out.mono hB.out)
        clear f1 f2 f3 d0 d1 d2 d3
        go_upto_region 14 with fail
        have hn := Lib.hid (hcn.out (fun g h => by rw [hcf.out] at h; cases h))
        go_wp2_with (refine wpList_store_row rfl 26 _ _ rfl w.heap.size ((kF 0).c (.slice none 0 0) (.slice none 0 0)) rfl rfl 26 _ hs.out info_frame rfl (fr_one _ _ _ _ _ _ _) ?_)
        refine bodyPost_ret (results_row_tmp rfl _ _ w.heap.size 26 _ _ _ rfl (setRow_heap _ _ _ _ _ _ hs.out) Try.underlying26 rfl info_frame) rfl ?_
        exact ⟨below_setRow' hB.out (Nat.le_refl _) _, (fun _ => rfl), fun f h => by rw [hn.out] at h; cases h⟩
      | some q =>
        obtain ⟨n, x⟩ := q
        rw [hre] at p1
        simp only at p1
        have hS := Lib.hid (rreadIDs_ok (b.drop 1) _ 40 (by decide) (by decide) W hrx.out hbb.out (by have := hlb.out; omega) n x hre)
        obtain ⟨c1, c2, c3⟩ := readC_some hre
        obtain ⟨a1, a2, a3, a4⟩ := readF_some hbb.out c1
        have hlF := Lib.hid (show (((b.drop 1).drop x).take (n * 32)).length = 32 * n by rw [List.length_take, List.length_drop]; omega)
        have hFb := Lib.hid (show Bytes (((b.drop 1).drop x).take (n * 32)) from bytes_take _ _ (bytes_drop _ _ hbb.out))
        have hn40 : n ≤ 1000000 := by omega
        have hn5 := Lib.hid (show n ≤ 100000 by omega)
        clear hre c1 c2 c3 a1 a2 a3 a4
        generalize ((b.drop 1).drop x).take (n * 32) = F at *
        generalize x + n * 32 = u at *
        cases hri : riseF F n
        · rw [hri, if_neg (by decide)] at p1
          have hcf := Lib.hid p1
          have hS2 := Lib.hid (hS.out.mono fun e w' h => (show e = .returned (.tuple #[.slice none 0 0, .int .i64 0, .int .i64 12]) ∧ Below W.heap.size W w' from rids_no hri h))
          clear hS p1 p2 p3 hri hd
          go_enter Try.func20, Try.ntmps20
          go_upto_region 4 with fail
          change Code.wp _ _ _ _ ((w.alloc (.cells ((kF 0).c (.slice none 0 0) (.slice none 0 0)) 26)).alloc (.cells ((kF k).c (.slice none 0 0) (.slice none 0 0)) 26))
          rw [← hW]
          clear hW
          have f1 := frozen_of_row _ (w.heap.size + 1) 1 _ _ hf.out
          have f2 := frozen_of_row _ (w.heap.size + 1) 2 _ _ hf.out
          have f3 := frozen_of_row _ (w.heap.size + 1) 3 _ _ hf.out
          obtain ⟨d0, d1, d2, d3⟩ := cellsF hf.out
          dsimp only [kF] at d0 d1
          go_upto_region 11 with (first | (go_at_call 22; (with_reducible refine (hD.out _).mono ?_); rintro e w2 ⟨rfl, rfl⟩) | (go_at_call 35; (with_reducible refine (hS2.out).mono ?_); rintro e w3 ⟨rfl, q2⟩; replace hs := Lib.hid (rowB hs.out q2 (Array.getElem?_eq_some_iff.1 hs.out).1); replace hf := Lib.hid (rowB hf.out q2 (Array.getElem?_eq_some_iff.1 hf.out).1); replace hB := Lib.hid (hB.out.trans (q2.mono hB.out.size)); replace hrb := Lib.hid (hrb.out.mono q2); clear q2; clear f1 f2 f3 d0 d1 d2 d3; have f1 := frozen_of_row _ (w.heap.size + 1) 1 _ _ hf.out; have f2 := frozen_of_row _ (w.heap.size + 1) 2 _ _ hf.out; have f3 := frozen_of_row _ (w.heap.size + 1) 3 _ _ hf.out; obtain ⟨d0, d1, d2, d3⟩ := cellsF hf.out; dsimp only [kF] at d0 d1))
          rw [setI hf.out (.slice none 0 0) 0 []]
          replace hs := Lib.hid ((setRow_other _ (w.heap.size + 1) w.heap.size ((⟨k, 0, 0, [], []⟩ : Fr).c (.slice none 0 0) (.slice none 0 0)) (by omega)).trans hs.out)
          replace hf := Lib.hid (setRow_heap _ (w.heap.size + 1) _ ((⟨k, 0, 0, [], []⟩ : Fr).c (.slice none 0 0) (.slice none 0 0)) _ _ hf.out)
          replace hB := Lib.hid (below_setRow' hB.out (Nat.le_succ w.heap.size) ((⟨k, 0, 0, [], []⟩ : Fr).c (.slice none 0 0) (.slice none 0 0)))
          replace hrb := Lib.hid (hrbW.out.mono hB.out)
          clear f1 f2 f3 d0 d1 d2 d3
          go_upto_region 14 with fail
          have hn := Lib.hid (hcn.out (fun g h => by rw [hcf.out] at h; cases h))
          go_wp2_with (refine wpList_store_row rfl 26 _ _ rfl w.heap.size ((kF 0).c (.slice none 0 0) (.slice none 0 0)) rfl rfl 26 _ hs.out info_frame rfl (fr_one _ _ _ _ _ _ _) ?_)
          refine bodyPost_ret (results_row_tmp rfl _ _ w.heap.size 26 _ _ _ rfl (setRow_heap _ _ _ _ _ _ hs.out) Try.underlying26 rfl info_frame) rfl ?_
          exact ⟨below_setRow' hB.out (Nat.le_refl _) _, (fun _ => rfl), fun f h => by rw [hn.out] at h; cases h⟩
        · rw [hri, if_pos rfl] at p1
          have hcf := Lib.hid p1
          have hS2 := Lib.hid (hS.out.mono fun e w' h => (show ∃ va vc, e = .returned (.tuple #[.slice va n vc, .int .i64 ((u : Nat) : Int), .int .i64 0]) ∧ HeldI W.heap.size w' (.slice va n vc) n F ∧ Below W.heap.size W w' from rids_yes hri h))
          clear hS p1 p2 p3 hri hd
          go_enter Try.func20, Try.ntmps20
          go_upto_region 4 with fail
          change Code.wp _ _ _ _ ((w.alloc (.cells ((kF 0).c (.slice none 0 0) (.slice none 0 0)) 26)).alloc (.cells ((kF k).c (.slice none 0 0) (.slice none 0 0)) 26))
          rw [← hW]
          clear hW
          have f1 := frozen_of_row _ (w.heap.size + 1) 1 _ _ hf.out
          have f2 := frozen_of_row _ (w.heap.size + 1) 2 _ _ hf.out
          have f3 := frozen_of_row _ (w.heap.size + 1) 3 _ _ hf.out
          obtain ⟨d0, d1, d2, d3⟩ := cellsF hf.out
          dsimp only [kF] at d0 d1
          go_upto_region 11 with (first | (go_at_call 22; (with_reducible refine (hD.out _).mono ?_); rintro e w2 ⟨rfl, rfl⟩) | (go_at_call 35; (with_reducible refine (hS2.out).mono ?_); rintro e w3 ⟨va, vc, rfl, q3, q2⟩; have hH := Lib.hid q3; replace hs := Lib.hid (rowB hs.out q2 (Array.getElem?_eq_some_iff.1 hs.out).1); replace hf := Lib.hid (rowB hf.out q2 (Array.getElem?_eq_some_iff.1 hf.out).1); replace hB := Lib.hid (hB.out.trans (q2.mono hB.out.size)); replace hrb := Lib.hid (hrb.out.mono q2); clear q2; clear f1 f2 f3 d0 d1 d2 d3; have f1 := frozen_of_row _ (w.heap.size + 1) 1 _ _ hf.out; have f2 := frozen_of_row _ (w.heap.size + 1) 2 _ _ hf.out; have f3 := frozen_of_row _ (w.heap.size + 1) 3 _ _ hf.out; obtain ⟨d0, d1, d2, d3⟩ := cellsF hf.out; dsimp only [kF] at d0 d1; clear q3))
          rw [setI hf.out (.slice va n vc) n F]
          replace hs := Lib.hid ((setRow_other _ (w.heap.size + 1) w.heap.size ((⟨k, 0, n, F, []⟩ : Fr).c (.slice va n vc) (.slice none 0 0)) (by omega)).trans hs.out)
          replace hf := Lib.hid (setRow_heap _ (w.heap.size + 1) _ ((⟨k, 0, n, F, []⟩ : Fr).c (.slice va n vc) (.slice none 0 0)) _ _ hf.out)
          replace hB := Lib.hid (below_setRow' hB.out (Nat.le_succ w.heap.size) ((⟨k, 0, n, F, []⟩ : Fr).c (.slice va n vc) (.slice none 0 0)))
          replace hrb := Lib.hid (hrbW.out.mono hB.out)
          clear f1 f2 f3 d0 d1 d2 d3
          go_upto_region 14 with fail
          obtain ⟨wz, hwz⟩ : ∃ wz : World, wz = w3.setRow (w.heap.size + 1) ((⟨k, 0, n, F, []⟩ : Fr).c (.slice va n vc) (.slice none 0 0)) := ⟨_, rfl⟩
          rw [← hwz]
          have hi0 : RdI wz (.slice va n vc) (⟨k, 0, n, F, []⟩ : Fr).n (⟨k, 0, n, F, []⟩ : Fr).F := by rw [hwz]; exact heldI_rd (held_setRow hH.out (by have := hszh.out; omega) _)
          have ho0 : RdS wz (.slice none 0 0) (⟨k, 0, n, F, []⟩ : Fr).L := by rw [hwz]; exact RdS.nil _
          have hs0 := hs.out
          have hf0 := hf.out
          have hB0 := hB.out
          have hrb0 := hrb.out
          rw [← hwz] at hs0 hf0 hB0 hrb0
          replace hs := Lib.hid hs0
          replace hf := Lib.hid hf0
          replace hB := Lib.hid hB0
          replace hrb := Lib.hid hrb0
          clear hs0 hf0 hB0 hrb0
          have hiz := Lib.hid hi0
          have hoz := Lib.hid ho0
          have hHz : HeldI W.heap.size wz (.slice va n vc) n F := by rw [hwz]; exact held_setRow hH.out (by have := hszh.out; omega) _
          replace hH := Lib.hid hHz
          clear hi0 ho0 hwz hHz
          have hQ := Lib.hid (Below.refl wz.heap.size wz)
          have ffit := (show (⟨k, 0, n, F, []⟩ : Fr).Fit from ⟨hfk.out, (by decide : 0 < 18446744073709551616), hn5.out, hFb.out, hlF.out, Nat.zero_le _, (fun i => by rw [num_nil]; exact bytes_nil), fun i => by rw [num_nil]; simp⟩)
          have hC := Lib.hid (fun (wx : World) (h : Below wz.heap.size wz wx) => rCheckF_any (⟨k, 0, n, F, []⟩ : Fr) ffit _ _ wx (hiz.out.mono h) (hoz.out.mono h))
          cases hok : frOk (⟨k, 0, n, F, []⟩ : Fr)
          · rw [chkR_not hok] at hC
            have hn := Lib.hid (hcb.out (⟨k, 0, n, F, []⟩ : Fr) hcf.out hok)
            clear hok
            go_wp2_with (first
              | (refine wpList_load_row_g rfl 26 _ rfl (w.heap.size + 1) rfl 26 ((⟨k, 0, n, F, []⟩ : Fr).c (.slice va n vc) (.slice none 0 0)) (0, 0) _ hf.out Try.underlying26 rfl info_frame ?_)
              | (go_at_call 16; (with_reducible refine (hC.out _ hQ.out).mono ?_); rintro e w3 ⟨rfl, h3⟩; replace hQ := Lib.hid (hQ.out.trans (Below.mono h3 hQ.out.size)); replace hs := Lib.hid (rowB hs.out h3 (Array.getElem?_eq_some_iff.1 hs.out).1); replace hf := Lib.hid (rowB hf.out h3 (Array.getElem?_eq_some_iff.1 hf.out).1); replace hB := Lib.hid (hB.out.trans (h3.mono hB.out.size)); replace hrb := Lib.hid (hrb.out.mono h3); (try replace hO := Lib.hid (hO.out.mono h3)); (try replace hH := Lib.hid (heldI_mono hH.out h3)); clear h3)
              | (refine wpList_store_row rfl 26 _ _ rfl w.heap.size ((kF 0).c (.slice none 0 0) (.slice none 0 0)) rfl rfl 26 _ hs.out info_frame rfl (fr_one _ _ _ _ _ _ _) ?_))
            refine bodyPost_ret (results_row_tmp rfl _ _ w.heap.size 26 _ _ _ rfl (setRow_heap _ _ _ _ _ _ hs.out) Try.underlying26 rfl info_frame) rfl ?_
            exact ⟨below_setRow' hB.out (Nat.le_refl _) _, (fun _ => rfl), fun f h => by rw [hn.out] at h; cases h⟩
          · rw [chkR_yes hok] at hC
            have hby := Lib.hid (fun (wx : World) (h : Below wz.heap.size wz wx) => rBytesF_any (⟨k, 0, n, F, []⟩ : Fr) ffit (frOk_parts hok).1 _ _ wx (hiz.out.mono h) (hoz.out.mono h))
            have hlen := frB_short ffit (frOk_parts hok).1
            obtain ⟨ZL, hZL⟩ : ∃ ZL, (frB (⟨k, 0, n, F, []⟩ : Fr)).length = ZL := ⟨_, rfl⟩
            rw [hZL] at hlen
            have hZL' := Lib.hid hZL
            clear hZL
            have hsb := Lib.hid (fun (va : Value) (wx : World) (ha : RdB wx va (frB (⟨k, 0, n, F, []⟩ : Fr))) (hb : RdB wx (.slice (some ⟨bb, o, none⟩) NB 1) b) => (same_any va _ (frB (⟨k, 0, n, F, []⟩ : Fr)) b wx (by rw [hZL'.out]; omega) ha hb).mono fun e w' ⟨q1, q2⟩ => (show e = Ending.returned (.bool (sameF (frB (⟨k, 0, n, F, []⟩ : Fr)) b)) ∧ Below wx.heap.size wx w' from ⟨q1, q2.below (Below.refl _ _)⟩))
            cases hsame : sameF (frB (⟨k, 0, n, F, []⟩ : Fr)) b
            · have hn := Lib.hid (hcs.out (⟨k, 0, n, F, []⟩ : Fr) hcf.out hok hsame)
              rw [hsame] at hsb
              clear hok hsame
              go_wp2_with (first
                | (refine wpList_load_row_g rfl 26 _ rfl (w.heap.size + 1) rfl 26 ((⟨k, 0, n, F, []⟩ : Fr).c (.slice va n vc) (.slice none 0 0)) (0, 0) _ hf.out Try.underlying26 rfl info_frame ?_)
                | (go_at_call 16; (with_reducible refine (hC.out _ hQ.out).mono ?_); rintro e w3 ⟨rfl, h3⟩; replace hQ := Lib.hid (hQ.out.trans (Below.mono h3 hQ.out.size)); replace hs := Lib.hid (rowB hs.out h3 (Array.getElem?_eq_some_iff.1 hs.out).1); replace hf := Lib.hid (rowB hf.out h3 (Array.getElem?_eq_some_iff.1 hf.out).1); replace hB := Lib.hid (hB.out.trans (h3.mono hB.out.size)); replace hrb := Lib.hid (hrb.out.mono h3); (try replace hO := Lib.hid (hO.out.mono h3)); (try replace hH := Lib.hid (heldI_mono hH.out h3)); clear h3)
                | (go_at_call 29; (with_reducible refine (hby.out _ hQ.out).mono ?_); rintro e w3 ⟨sv, rfl, hO0, h3⟩; replace hQ := Lib.hid (hQ.out.trans (Below.mono h3 hQ.out.size)); replace hs := Lib.hid (rowB hs.out h3 (Array.getElem?_eq_some_iff.1 hs.out).1); replace hf := Lib.hid (rowB hf.out h3 (Array.getElem?_eq_some_iff.1 hf.out).1); replace hB := Lib.hid (hB.out.trans (h3.mono hB.out.size)); replace hrb := Lib.hid (hrb.out.mono h3); (try replace hO := Lib.hid (hO.out.mono h3)); (try replace hH := Lib.hid (heldI_mono hH.out h3)); clear h3; have hO := Lib.hid hO0.rd; obtain ⟨sa, sc, rfl⟩ := own_slice hO0 _ hZL'.out; clear hO0)
                | (go_at_call 17; (with_reducible refine (hsb.out _ _ hO.out hrb.out).mono ?_); rintro e w3 ⟨rfl, h3⟩; replace hQ := Lib.hid (hQ.out.trans (Below.mono h3 hQ.out.size)); replace hs := Lib.hid (rowB hs.out h3 (Array.getElem?_eq_some_iff.1 hs.out).1); replace hf := Lib.hid (rowB hf.out h3 (Array.getElem?_eq_some_iff.1 hf.out).1); replace hB := Lib.hid (hB.out.trans (h3.mono hB.out.size)); replace hrb := Lib.hid (hrb.out.mono h3); (try replace hO := Lib.hid (hO.out.mono h3)); (try replace hH := Lib.hid (heldI_mono hH.out h3)); clear h3)
                | (refine wpList_store_row rfl 26 _ _ rfl w.heap.size ((kF 0).c (.slice none 0 0) (.slice none 0 0)) rfl rfl 26 _ hs.out info_frame rfl (fr_one _ _ _ _ _ _ _) ?_))
              refine bodyPost_ret (results_row_tmp rfl _ _ w.heap.size 26 _ _ _ rfl (setRow_heap _ _ _ _ _ _ hs.out) Try.underlying26 rfl info_frame) rfl ?_
              exact ⟨below_setRow' hB.out (Nat.le_refl _) _, (fun _ => rfl), fun f h => by rw [hn.out] at h; cases h⟩
            · have hn := Lib.hid (hcy.out (⟨k, 0, n, F, []⟩ : Fr) hcf.out hok hsame ffit)
              rw [hsame] at hsb
              clear hok hsame
              go_wp2_with (first
                | (refine wpList_load_row_g rfl 26 _ rfl (w.heap.size + 1) rfl 26 ((⟨k, 0, n, F, []⟩ : Fr).c (.slice va n vc) (.slice none 0 0)) (0, 0) _ hf.out Try.underlying26 rfl info_frame ?_)
                | (go_at_call 16; (with_reducible refine (hC.out _ hQ.out).mono ?_); rintro e w3 ⟨rfl, h3⟩; replace hQ := Lib.hid (hQ.out.trans (Below.mono h3 hQ.out.size)); replace hs := Lib.hid (rowB hs.out h3 (Array.getElem?_eq_some_iff.1 hs.out).1); replace hf := Lib.hid (rowB hf.out h3 (Array.getElem?_eq_some_iff.1 hf.out).1); replace hB := Lib.hid (hB.out.trans (h3.mono hB.out.size)); replace hrb := Lib.hid (hrb.out.mono h3); (try replace hO := Lib.hid (hO.out.mono h3)); (try replace hH := Lib.hid (heldI_mono hH.out h3)); clear h3)
                | (go_at_call 29; (with_reducible refine (hby.out _ hQ.out).mono ?_); rintro e w3 ⟨sv, rfl, hO0, h3⟩; replace hQ := Lib.hid (hQ.out.trans (Below.mono h3 hQ.out.size)); replace hs := Lib.hid (rowB hs.out h3 (Array.getElem?_eq_some_iff.1 hs.out).1); replace hf := Lib.hid (rowB hf.out h3 (Array.getElem?_eq_some_iff.1 hf.out).1); replace hB := Lib.hid (hB.out.trans (h3.mono hB.out.size)); replace hrb := Lib.hid (hrb.out.mono h3); (try replace hO := Lib.hid (hO.out.mono h3)); (try replace hH := Lib.hid (heldI_mono hH.out h3)); clear h3; have hO := Lib.hid hO0.rd; obtain ⟨sa, sc, rfl⟩ := own_slice hO0 _ hZL'.out; clear hO0)
                | (go_at_call 17; (with_reducible refine (hsb.out _ _ hO.out hrb.out).mono ?_); rintro e w3 ⟨rfl, h3⟩; replace hQ := Lib.hid (hQ.out.trans (Below.mono h3 hQ.out.size)); replace hs := Lib.hid (rowB hs.out h3 (Array.getElem?_eq_some_iff.1 hs.out).1); replace hf := Lib.hid (rowB hf.out h3 (Array.getElem?_eq_some_iff.1 hf.out).1); replace hB := Lib.hid (hB.out.trans (h3.mono hB.out.size)); replace hrb := Lib.hid (hrb.out.mono h3); (try replace hO := Lib.hid (hO.out.mono h3)); (try replace hH := Lib.hid (heldI_mono hH.out h3)); clear h3)
                | (refine wpList_store_row rfl 26 _ _ rfl w.heap.size ((⟨k, 0, n, F, []⟩ : Fr).c (.slice va n vc) (.slice none 0 0)) rfl rfl 26 _ hs.out info_frame rfl (fr_one _ _ _ _ _ _ _) ?_))
              refine bodyPost_ret (results_row_tmp rfl _ _ w.heap.size 26 _ _ _ rfl (setRow_heap _ _ _ _ _ _ hs.out) Try.underlying26 rfl info_frame) rfl ?_
              exact ⟨below_setRow' hB.out (Nat.le_refl _) _, (fun h => by rw [hn.out] at h; cases h), fun f' h => by
                rw [hn.out] at h
                obtain rfl := Option.some.inj h
                exact ⟨_, _, rfl, heldI_lower (held_setRow hH.out (by have := hszh.out; omega) _) (by have := hszh.out; omega), heldS_nil _ _⟩⟩
  · have hrx := Lib.hid (hrr.2 hc1)
    clear hrr
    cases hd : idsK k
    · rw [hd] at hD
      by_cases h5 : k = 5
      · subst h5
        replace p2 := p2.out hd rfl
        have hS := Lib.hid (rstrings_any (b.drop 1) _ W hrx.out hbb.out hlb.out)
        cases hre : readS (b.drop 1) with
        | none =>
          rw [hre] at p2
          have hcf := Lib.hid p2
          have hS2 := Lib.hid (hS.out.mono fun e w' h => (show e = .returned (.tuple #[.slice none 0 0, .bool false]) ∧ Below W.heap.size W w' from ⟨h.2.1 hre, h.1⟩))
          clear hS p1 p2 p3 hre hd
          go_enter Try.func20, Try.ntmps20
          go_upto_region 4 with fail
          change Code.wp _ _ _ _ ((w.alloc (.cells ((kF 0).c (.slice none 0 0) (.slice none 0 0)) 26)).alloc (.cells ((kF 5).c (.slice none 0 0) (.slice none 0 0)) 26))
          rw [← hW]
          clear hW
          have f1 := frozen_of_row _ (w.heap.size + 1) 1 _ _ hf.out
          have f2 := frozen_of_row _ (w.heap.size + 1) 2 _ _ hf.out
          have f3 := frozen_of_row _ (w.heap.size + 1) 3 _ _ hf.out
          obtain ⟨d0, d1, d2, d3⟩ := cellsF hf.out
          dsimp only [kF] at d0 d1
          go_upto_region 14 with (first | (go_at_call 22; (with_reducible refine (hD.out _).mono ?_); rintro e w2 ⟨rfl, rfl⟩) | (go_at_call 36; (with_reducible refine (hS2.out).mono ?_); rintro e w3 ⟨rfl, q2⟩; replace hs := Lib.hid (rowB hs.out q2 (Array.getElem?_eq_some_iff.1 hs.out).1); replace hf := Lib.hid (rowB hf.out q2 (Array.getElem?_eq_some_iff.1 hf.out).1); replace hB := Lib.hid (hB.out.trans (q2.mono hB.out.size)); replace hrb := Lib.hid (hrb.out.mono q2); clear q2; clear f1 f2 f3 d0 d1 d2 d3; have f1 := frozen_of_row _ (w.heap.size + 1) 1 _ _ hf.out; have f2 := frozen_of_row _ (w.heap.size + 1) 2 _ _ hf.out; have f3 := frozen_of_row _ (w.heap.size + 1) 3 _ _ hf.out; obtain ⟨d0, d1, d2, d3⟩ := cellsF hf.out; dsimp only [kF] at d0 d1))
          rw [setO hf.out (.slice none 0 0) []]
          replace hs := Lib.hid ((setRow_other _ (w.heap.size + 1) w.heap.size ((⟨5, 0, 0, [], []⟩ : Fr).c (.slice none 0 0) (.slice none 0 0)) (by omega)).trans hs.out)
          replace hf := Lib.hid (setRow_heap _ (w.heap.size + 1) _ ((⟨5, 0, 0, [], []⟩ : Fr).c (.slice none 0 0) (.slice none 0 0)) _ _ hf.out)
          replace hB := Lib.hid (below_setRow' hB.out (Nat.le_succ w.heap.size) ((⟨5, 0, 0, [], []⟩ : Fr).c (.slice none 0 0) (.slice none 0 0)))
          replace hrb := Lib.hid (hrbW.out.mono hB.out)
          clear f1 f2 f3 d0 d1 d2 d3
          have hn := Lib.hid (hcn.out (fun g h => by rw [hcf.out] at h; cases h))
          go_wp2_with (refine wpList_store_row rfl 26 _ _ rfl w.heap.size ((kF 0).c (.slice none 0 0) (.slice none 0 0)) rfl rfl 26 _ hs.out info_frame rfl (fr_one _ _ _ _ _ _ _) ?_)
          refine bodyPost_ret (results_row_tmp rfl _ _ w.heap.size 26 _ _ _ rfl (setRow_heap _ _ _ _ _ _ hs.out) Try.underlying26 rfl info_frame) rfl ?_
          exact ⟨below_setRow' hB.out (Nat.le_refl _) _, (fun _ => rfl), fun f h => by rw [hn.out] at h; cases h⟩
        | some q =>
          obtain ⟨L, u⟩ := q
          rw [hre] at p2
          simp only at p2
          have hS2 := Lib.hid (hS.out.mono fun e w' h => (show ∃ va vc, e = .returned (.tuple #[.slice va L.length vc, .bool (decide (u = (b.drop 1).length))]) ∧ HeldS W.heap.size w' (.slice va L.length vc) L ∧ Below W.heap.size W w' from by
            obtain ⟨v, h1, h2⟩ := h.2.2 L u hre
            obtain ⟨va, vc, rfl⟩ := h2.slice
            exact ⟨va, vc, h1, h2.held, h.1⟩))
          have hfits : L.length ≤ 100000 ∧ (∀ i, Bytes (nthL L i)) ∧ ∀ i, (nthL L i).length ≤ 1000000 := by
            have h6 := readR_back (k := 5) (by decide) hbb.out hlb.out (show readR 5 (b.drop 1) = some (⟨5, 0, 0, [], L⟩, u) by rw [readR_ops rfl rfl rfl, hre])
            exact ⟨h6.2.2.2.2.l, h6.2.2.2.2.L, h6.2.2.2.2.s⟩
          have hL8 := Lib.hid hfits.1
          have hLb := Lib.hid hfits.2.1
          have hL4 := Lib.hid hfits.2.2
          clear hfits
          rw [hdl'.out] at hS2
          by_cases hu : u = NB - 1
          · rw [if_pos hu] at p2
            have hcf := Lib.hid p2
            rw [decide_eq_true hu] at hS2
            clear hS p1 p2 p3 hre hd hu
            go_enter Try.func20, Try.ntmps20
            go_upto_region 4 with fail
            change Code.wp _ _ _ _ ((w.alloc (.cells ((kF 0).c (.slice none 0 0) (.slice none 0 0)) 26)).alloc (.cells ((kF 5).c (.slice none 0 0) (.slice none 0 0)) 26))
            rw [← hW]
            clear hW
            have f1 := frozen_of_row _ (w.heap.size + 1) 1 _ _ hf.out
            have f2 := frozen_of_row _ (w.heap.size + 1) 2 _ _ hf.out
            have f3 := frozen_of_row _ (w.heap.size + 1) 3 _ _ hf.out
            obtain ⟨d0, d1, d2, d3⟩ := cellsF hf.out
            dsimp only [kF] at d0 d1
            go_upto_region 14 with (first | (go_at_call 22; (with_reducible refine (hD.out _).mono ?_); rintro e w2 ⟨rfl, rfl⟩) | (go_at_call 36; (with_reducible refine (hS2.out).mono ?_); rintro e w3 ⟨va, vc, rfl, q3, q2⟩; have hH := Lib.hid q3; replace hs := Lib.hid (rowB hs.out q2 (Array.getElem?_eq_some_iff.1 hs.out).1); replace hf := Lib.hid (rowB hf.out q2 (Array.getElem?_eq_some_iff.1 hf.out).1); replace hB := Lib.hid (hB.out.trans (q2.mono hB.out.size)); replace hrb := Lib.hid (hrb.out.mono q2); clear q2; clear f1 f2 f3 d0 d1 d2 d3; have f1 := frozen_of_row _ (w.heap.size + 1) 1 _ _ hf.out; have f2 := frozen_of_row _ (w.heap.size + 1) 2 _ _ hf.out; have f3 := frozen_of_row _ (w.heap.size + 1) 3 _ _ hf.out; obtain ⟨d0, d1, d2, d3⟩ := cellsF hf.out; dsimp only [kF] at d0 d1; clear q3))
            rw [setO hf.out (.slice va L.length vc) L]
            replace hs := Lib.hid ((setRow_other _ (w.heap.size + 1) w.heap.size ((⟨5, 0, 0, [], L⟩ : Fr).c (.slice none 0 0) (.slice va L.length vc)) (by omega)).trans hs.out)
            replace hf := Lib.hid (setRow_heap _ (w.heap.size + 1) _ ((⟨5, 0, 0, [], L⟩ : Fr).c (.slice none 0 0) (.slice va L.length vc)) _ _ hf.out)
            replace hB := Lib.hid (below_setRow' hB.out (Nat.le_succ w.heap.size) ((⟨5, 0, 0, [], L⟩ : Fr).c (.slice none 0 0) (.slice va L.length vc)))
            replace hrb := Lib.hid (hrbW.out.mono hB.out)
            clear f1 f2 f3 d0 d1 d2 d3
            obtain ⟨wz, hwz⟩ : ∃ wz : World, wz = w3.setRow (w.heap.size + 1) ((⟨5, 0, 0, [], L⟩ : Fr).c (.slice none 0 0) (.slice va L.length vc)) := ⟨_, rfl⟩
            rw [← hwz]
            have hi0 : RdI wz (.slice none 0 0) (⟨5, 0, 0, [], L⟩ : Fr).n (⟨5, 0, 0, [], L⟩ : Fr).F := by rw [hwz]; exact (show RdI _ (.slice none 0 0) 0 [] from .inl ⟨none, 0, rfl, fun _ => rfl, rfl, rfl⟩)
            have ho0 : RdS wz (.slice va L.length vc) (⟨5, 0, 0, [], L⟩ : Fr).L := by rw [hwz]; exact heldS_rd (heldS_setRow hH.out (by have := hszh.out; omega) _)
            have hs0 := hs.out
            have hf0 := hf.out
            have hB0 := hB.out
            have hrb0 := hrb.out
            rw [← hwz] at hs0 hf0 hB0 hrb0
            replace hs := Lib.hid hs0
            replace hf := Lib.hid hf0
            replace hB := Lib.hid hB0
            replace hrb := Lib.hid hrb0
            clear hs0 hf0 hB0 hrb0
            have hiz := Lib.hid hi0
            have hoz := Lib.hid ho0
            have hHz : HeldS W.heap.size wz (.slice va L.length vc) L := by rw [hwz]; exact heldS_setRow hH.out (by have := hszh.out; omega) _
            replace hH := Lib.hid hHz
            clear hi0 ho0 hwz hHz
            have hQ := Lib.hid (Below.refl wz.heap.size wz)
            have ffit := (show (⟨5, 0, 0, [], L⟩ : Fr).Fit from ⟨(by decide : (0 : Int) ≤ 5 ∧ (5 : Int) < 256), (by decide : 0 < 18446744073709551616), Nat.zero_le _, bytes_nil, rfl, hL8.out, hLb.out, hL4.out⟩)
            have hC := Lib.hid (fun (wx : World) (h : Below wz.heap.size wz wx) => rCheckF_any (⟨5, 0, 0, [], L⟩ : Fr) ffit _ _ wx (hiz.out.mono h) (hoz.out.mono h))
            cases hok : frOk (⟨5, 0, 0, [], L⟩ : Fr)
            · rw [chkR_not hok] at hC
              have hn := Lib.hid (hcb.out (⟨5, 0, 0, [], L⟩ : Fr) hcf.out hok)
              clear hok
              go_wp2_with (first
                | (refine wpList_load_row_g rfl 26 _ rfl (w.heap.size + 1) rfl 26 ((⟨5, 0, 0, [], L⟩ : Fr).c (.slice none 0 0) (.slice va L.length vc)) (0, 0) _ hf.out Try.underlying26 rfl info_frame ?_)
                | (go_at_call 16; (with_reducible refine (hC.out _ hQ.out).mono ?_); rintro e w3 ⟨rfl, h3⟩; replace hQ := Lib.hid (hQ.out.trans (Below.mono h3 hQ.out.size)); replace hs := Lib.hid (rowB hs.out h3 (Array.getElem?_eq_some_iff.1 hs.out).1); replace hf := Lib.hid (rowB hf.out h3 (Array.getElem?_eq_some_iff.1 hf.out).1); replace hB := Lib.hid (hB.out.trans (h3.mono hB.out.size)); replace hrb := Lib.hid (hrb.out.mono h3); (try replace hO := Lib.hid (hO.out.mono h3)); (try replace hH := Lib.hid (heldS_mono hH.out h3)); clear h3)
                | (refine wpList_store_row rfl 26 _ _ rfl w.heap.size ((kF 0).c (.slice none 0 0) (.slice none 0 0)) rfl rfl 26 _ hs.out info_frame rfl (fr_one _ _ _ _ _ _ _) ?_))
              refine bodyPost_ret (results_row_tmp rfl _ _ w.heap.size 26 _ _ _ rfl (setRow_heap _ _ _ _ _ _ hs.out) Try.underlying26 rfl info_frame) rfl ?_
              exact ⟨below_setRow' hB.out (Nat.le_refl _) _, (fun _ => rfl), fun f h => by rw [hn.out] at h; cases h⟩
            · rw [chkR_yes hok] at hC
              have hby := Lib.hid (fun (wx : World) (h : Below wz.heap.size wz wx) => rBytesF_any (⟨5, 0, 0, [], L⟩ : Fr) ffit (frOk_parts hok).1 _ _ wx (hiz.out.mono h) (hoz.out.mono h))
              have hlen := frB_short ffit (frOk_parts hok).1
              obtain ⟨ZL, hZL⟩ : ∃ ZL, (frB (⟨5, 0, 0, [], L⟩ : Fr)).length = ZL := ⟨_, rfl⟩
              rw [hZL] at hlen
              have hZL' := Lib.hid hZL
              clear hZL
              have hsb := Lib.hid (fun (va : Value) (wx : World) (ha : RdB wx va (frB (⟨5, 0, 0, [], L⟩ : Fr))) (hb : RdB wx (.slice (some ⟨bb, o, none⟩) NB bc) b) => (same_any va _ (frB (⟨5, 0, 0, [], L⟩ : Fr)) b wx (by rw [hZL'.out]; omega) ha hb).mono fun e w' ⟨q1, q2⟩ => (show e = Ending.returned (.bool (sameF (frB (⟨5, 0, 0, [], L⟩ : Fr)) b)) ∧ Below wx.heap.size wx w' from ⟨q1, q2.below (Below.refl _ _)⟩))
              cases hsame : sameF (frB (⟨5, 0, 0, [], L⟩ : Fr)) b
              · have hn := Lib.hid (hcs.out (⟨5, 0, 0, [], L⟩ : Fr) hcf.out hok hsame)
                rw [hsame] at hsb
                clear hok hsame
                go_wp2_with (first
                  | (refine wpList_load_row_g rfl 26 _ rfl (w.heap.size + 1) rfl 26 ((⟨5, 0, 0, [], L⟩ : Fr).c (.slice none 0 0) (.slice va L.length vc)) (0, 0) _ hf.out Try.underlying26 rfl info_frame ?_)
                  | (go_at_call 16; (with_reducible refine (hC.out _ hQ.out).mono ?_); rintro e w3 ⟨rfl, h3⟩; replace hQ := Lib.hid (hQ.out.trans (Below.mono h3 hQ.out.size)); replace hs := Lib.hid (rowB hs.out h3 (Array.getElem?_eq_some_iff.1 hs.out).1); replace hf := Lib.hid (rowB hf.out h3 (Array.getElem?_eq_some_iff.1 hf.out).1); replace hB := Lib.hid (hB.out.trans (h3.mono hB.out.size)); replace hrb := Lib.hid (hrb.out.mono h3); (try replace hO := Lib.hid (hO.out.mono h3)); (try replace hH := Lib.hid (heldS_mono hH.out h3)); clear h3)
                  | (go_at_call 29; (with_reducible refine (hby.out _ hQ.out).mono ?_); rintro e w3 ⟨sv, rfl, hO0, h3⟩; replace hQ := Lib.hid (hQ.out.trans (Below.mono h3 hQ.out.size)); replace hs := Lib.hid (rowB hs.out h3 (Array.getElem?_eq_some_iff.1 hs.out).1); replace hf := Lib.hid (rowB hf.out h3 (Array.getElem?_eq_some_iff.1 hf.out).1); replace hB := Lib.hid (hB.out.trans (h3.mono hB.out.size)); replace hrb := Lib.hid (hrb.out.mono h3); (try replace hO := Lib.hid (hO.out.mono h3)); (try replace hH := Lib.hid (heldS_mono hH.out h3)); clear h3; have hO := Lib.hid hO0.rd; obtain ⟨sa, sc, rfl⟩ := own_slice hO0 _ hZL'.out; clear hO0)
                  | (go_at_call 17; (with_reducible refine (hsb.out _ _ hO.out hrb.out).mono ?_); rintro e w3 ⟨rfl, h3⟩; replace hQ := Lib.hid (hQ.out.trans (Below.mono h3 hQ.out.size)); replace hs := Lib.hid (rowB hs.out h3 (Array.getElem?_eq_some_iff.1 hs.out).1); replace hf := Lib.hid (rowB hf.out h3 (Array.getElem?_eq_some_iff.1 hf.out).1); replace hB := Lib.hid (hB.out.trans (h3.mono hB.out.size)); replace hrb := Lib.hid (hrb.out.mono h3); (try replace hO := Lib.hid (hO.out.mono h3)); (try replace hH := Lib.hid (heldS_mono hH.out h3)); clear h3)
                  | (refine wpList_store_row rfl 26 _ _ rfl w.heap.size ((kF 0).c (.slice none 0 0) (.slice none 0 0)) rfl rfl 26 _ hs.out info_frame rfl (fr_one _ _ _ _ _ _ _) ?_))
                refine bodyPost_ret (results_row_tmp rfl _ _ w.heap.size 26 _ _ _ rfl (setRow_heap _ _ _ _ _ _ hs.out) Try.underlying26 rfl info_frame) rfl ?_
                exact ⟨below_setRow' hB.out (Nat.le_refl _) _, (fun _ => rfl), fun f h => by rw [hn.out] at h; cases h⟩
              · have hn := Lib.hid (hcy.out (⟨5, 0, 0, [], L⟩ : Fr) hcf.out hok hsame ffit)
                rw [hsame] at hsb
                clear hok hsame
                go_wp2_with (first
                  | (refine wpList_load_row_g rfl 26 _ rfl (w.heap.size + 1) rfl 26 ((⟨5, 0, 0, [], L⟩ : Fr).c (.slice none 0 0) (.slice va L.length vc)) (0, 0) _ hf.out Try.underlying26 rfl info_frame ?_)
                  | (go_at_call 16; (with_reducible refine (hC.out _ hQ.out).mono ?_); rintro e w3 ⟨rfl, h3⟩; replace hQ := Lib.hid (hQ.out.trans (Below.mono h3 hQ.out.size)); replace hs := Lib.hid (rowB hs.out h3 (Array.getElem?_eq_some_iff.1 hs.out).1); replace hf := Lib.hid (rowB hf.out h3 (Array.getElem?_eq_some_iff.1 hf.out).1); replace hB := Lib.hid (hB.out.trans (h3.mono hB.out.size)); replace hrb := Lib.hid (hrb.out.mono h3); (try replace hO := Lib.hid (hO.out.mono h3)); (try replace hH := Lib.hid (heldS_mono hH.out h3)); clear h3)
                  | (go_at_call 29; (with_reducible refine (hby.out _ hQ.out).mono ?_); rintro e w3 ⟨sv, rfl, hO0, h3⟩; replace hQ := Lib.hid (hQ.out.trans (Below.mono h3 hQ.out.size)); replace hs := Lib.hid (rowB hs.out h3 (Array.getElem?_eq_some_iff.1 hs.out).1); replace hf := Lib.hid (rowB hf.out h3 (Array.getElem?_eq_some_iff.1 hf.out).1); replace hB := Lib.hid (hB.out.trans (h3.mono hB.out.size)); replace hrb := Lib.hid (hrb.out.mono h3); (try replace hO := Lib.hid (hO.out.mono h3)); (try replace hH := Lib.hid (heldS_mono hH.out h3)); clear h3; have hO := Lib.hid hO0.rd; obtain ⟨sa, sc, rfl⟩ := own_slice hO0 _ hZL'.out; clear hO0)
                  | (go_at_call 17; (with_reducible refine (hsb.out _ _ hO.out hrb.out).mono ?_); rintro e w3 ⟨rfl, h3⟩; replace hQ := Lib.hid (hQ.out.trans (Below.mono h3 hQ.out.size)); replace hs := Lib.hid (rowB hs.out h3 (Array.getElem?_eq_some_iff.1 hs.out).1); replace hf := Lib.hid (rowB hf.out h3 (Array.getElem?_eq_some_iff.1 hf.out).1); replace hB := Lib.hid (hB.out.trans (h3.mono hB.out.size)); replace hrb := Lib.hid (hrb.out.mono h3); (try replace hO := Lib.hid (hO.out.mono h3)); (try replace hH := Lib.hid (heldS_mono hH.out h3)); clear h3)
                  | (refine wpList_store_row rfl 26 _ _ rfl w.heap.size ((⟨5, 0, 0, [], L⟩ : Fr).c (.slice none 0 0) (.slice va L.length vc)) rfl rfl 26 _ hs.out info_frame rfl (fr_one _ _ _ _ _ _ _) ?_))
                refine bodyPost_ret (results_row_tmp rfl _ _ w.heap.size 26 _ _ _ rfl (setRow_heap _ _ _ _ _ _ hs.out) Try.underlying26 rfl info_frame) rfl ?_
                exact ⟨below_setRow' hB.out (Nat.le_refl _) _, (fun h => by rw [hn.out] at h; cases h), fun f' h => by
                  rw [hn.out] at h
                  obtain rfl := Option.some.inj h
                  exact ⟨_, _, rfl, heldI_nil _ _, heldS_lower (heldS_setRow hH.out (by have := hszh.out; omega) _) (by have := hszh.out; omega)⟩⟩
          · rw [if_neg hu] at p2
            have hcf := Lib.hid p2
            rw [decide_eq_false hu] at hS2
            clear hS p1 p2 p3 hre hd hu
            go_enter Try.func20, Try.ntmps20
            go_upto_region 4 with fail
            change Code.wp _ _ _ _ ((w.alloc (.cells ((kF 0).c (.slice none 0 0) (.slice none 0 0)) 26)).alloc (.cells ((kF 5).c (.slice none 0 0) (.slice none 0 0)) 26))
            rw [← hW]
            clear hW
            have f1 := frozen_of_row _ (w.heap.size + 1) 1 _ _ hf.out
            have f2 := frozen_of_row _ (w.heap.size + 1) 2 _ _ hf.out
            have f3 := frozen_of_row _ (w.heap.size + 1) 3 _ _ hf.out
            obtain ⟨d0, d1, d2, d3⟩ := cellsF hf.out
            dsimp only [kF] at d0 d1
            go_upto_region 14 with (first | (go_at_call 22; (with_reducible refine (hD.out _).mono ?_); rintro e w2 ⟨rfl, rfl⟩) | (go_at_call 36; (with_reducible refine (hS2.out).mono ?_); rintro e w3 ⟨va, vc, rfl, q3, q2⟩; replace hs := Lib.hid (rowB hs.out q2 (Array.getElem?_eq_some_iff.1 hs.out).1); replace hf := Lib.hid (rowB hf.out q2 (Array.getElem?_eq_some_iff.1 hf.out).1); replace hB := Lib.hid (hB.out.trans (q2.mono hB.out.size)); replace hrb := Lib.hid (hrb.out.mono q2); clear q2; clear f1 f2 f3 d0 d1 d2 d3; have f1 := frozen_of_row _ (w.heap.size + 1) 1 _ _ hf.out; have f2 := frozen_of_row _ (w.heap.size + 1) 2 _ _ hf.out; have f3 := frozen_of_row _ (w.heap.size + 1) 3 _ _ hf.out; obtain ⟨d0, d1, d2, d3⟩ := cellsF hf.out; dsimp only [kF] at d0 d1; clear q3))
            rw [setO hf.out (.slice va L.length vc) L]
            replace hs := Lib.hid ((setRow_other _ (w.heap.size + 1) w.heap.size ((⟨5, 0, 0, [], L⟩ : Fr).c (.slice none 0 0) (.slice va L.length vc)) (by omega)).trans hs.out)
            replace hf := Lib.hid (setRow_heap _ (w.heap.size + 1) _ ((⟨5, 0, 0, [], L⟩ : Fr).c (.slice none 0 0) (.slice va L.length vc)) _ _ hf.out)
            replace hB := Lib.hid (below_setRow' hB.out (Nat.le_succ w.heap.size) ((⟨5, 0, 0, [], L⟩ : Fr).c (.slice none 0 0) (.slice va L.length vc)))
            replace hrb := Lib.hid (hrbW.out.mono hB.out)
            clear f1 f2 f3 d0 d1 d2 d3
            have hn := Lib.hid (hcn.out (fun g h => by rw [hcf.out] at h; cases h))
            go_wp2_with (refine wpList_store_row rfl 26 _ _ rfl w.heap.size ((kF 0).c (.slice none 0 0) (.slice none 0 0)) rfl rfl 26 _ hs.out info_frame rfl (fr_one _ _ _ _ _ _ _) ?_)
            refine bodyPost_ret (results_row_tmp rfl _ _ w.heap.size 26 _ _ _ rfl (setRow_heap _ _ _ _ _ _ hs.out) Try.underlying26 rfl info_frame) rfl ?_
            exact ⟨below_setRow' hB.out (Nat.le_refl _) _, (fun _ => rfl), fun f h => by rw [hn.out] at h; cases h⟩
      · replace p3 := p3.out hd h5
        have k5 : (k == 5) = false := by simpa using h5
        have hS := Lib.hid (rreadNumber_any (b.drop 1) _ W hrx.out hbb.out (by have := hlb.out; omega))
        cases hre : readF (b.drop 1) with
        | none =>
          rw [hre] at p3
          have hcf := Lib.hid p3
          obtain ⟨e1, e2, e3⟩ := rd_none hre
          have hS2 := Lib.hid (hS.out.mono fun e w' h => (show e = .returned (.tuple #[.int .u64 ((0 : Nat) : Int), .int .i64 0, .int .i64 12]) ∧ Below W.heap.size W w' from ⟨by rw [h.1, e1, e2, e3]; rfl, h.2⟩))
          clear hS p1 p2 p3 hre hd e1 e2 e3
          go_enter Try.func20, Try.ntmps20
          go_upto_region 4 with fail
          change Code.wp _ _ _ _ ((w.alloc (.cells ((kF 0).c (.slice none 0 0) (.slice none 0 0)) 26)).alloc (.cells ((kF k).c (.slice none 0 0) (.slice none 0 0)) 26))
          rw [← hW]
          clear hW
          have f1 := frozen_of_row _ (w.heap.size + 1) 1 _ _ hf.out
          have f2 := frozen_of_row _ (w.heap.size + 1) 2 _ _ hf.out
          have f3 := frozen_of_row _ (w.heap.size + 1) 3 _ _ hf.out
          obtain ⟨d0, d1, d2, d3⟩ := cellsF hf.out
          dsimp only [kF] at d0 d1
          go_upto_region 7 with (first | (go_at_call 22; (with_reducible refine (hD.out _).mono ?_); rintro e w2 ⟨rfl, rfl⟩) | (go_at_call 37; (with_reducible refine (hS2.out).mono ?_); rintro e w3 ⟨rfl, q2⟩; replace hs := Lib.hid (rowB hs.out q2 (Array.getElem?_eq_some_iff.1 hs.out).1); replace hf := Lib.hid (rowB hf.out q2 (Array.getElem?_eq_some_iff.1 hf.out).1); replace hB := Lib.hid (hB.out.trans (q2.mono hB.out.size)); replace hrb := Lib.hid (hrb.out.mono q2); clear q2; clear f1 f2 f3 d0 d1 d2 d3; have f1 := frozen_of_row _ (w.heap.size + 1) 1 _ _ hf.out; have f2 := frozen_of_row _ (w.heap.size + 1) 2 _ _ hf.out; have f3 := frozen_of_row _ (w.heap.size + 1) 3 _ _ hf.out; obtain ⟨d0, d1, d2, d3⟩ := cellsF hf.out; dsimp only [kF] at d0 d1))
          rw [(show w3.setCell ⟨w.heap.size + 1, 1, none⟩ (.int .u64 0) = w3.setRow (w.heap.size + 1) ((⟨k, 0, 0, [], []⟩ : Fr).c (.slice none 0 0) (.slice none 0 0)) from setN hf.out 0)]
          replace hs := Lib.hid ((setRow_other _ (w.heap.size + 1) w.heap.size ((⟨k, 0, 0, [], []⟩ : Fr).c (.slice none 0 0) (.slice none 0 0)) (by omega)).trans hs.out)
          replace hf := Lib.hid (setRow_heap _ (w.heap.size + 1) _ ((⟨k, 0, 0, [], []⟩ : Fr).c (.slice none 0 0) (.slice none 0 0)) _ _ hf.out)
          replace hB := Lib.hid (below_setRow' hB.out (Nat.le_succ w.heap.size) ((⟨k, 0, 0, [], []⟩ : Fr).c (.slice none 0 0) (.slice none 0 0)))
          replace hrb := Lib.hid (hrbW.out.mono hB.out)
          clear f1 f2 f3 d0 d1 d2 d3
          go_upto_region 14 with fail
          have hn := Lib.hid (hcn.out (fun g h => by rw [hcf.out] at h; cases h))
          go_wp2_with (refine wpList_store_row rfl 26 _ _ rfl w.heap.size ((kF 0).c (.slice none 0 0) (.slice none 0 0)) rfl rfl 26 _ hs.out info_frame rfl (fr_one _ _ _ _ _ _ _) ?_)
          refine bodyPost_ret (results_row_tmp rfl _ _ w.heap.size 26 _ _ _ rfl (setRow_heap _ _ _ _ _ _ hs.out) Try.underlying26 rfl info_frame) rfl ?_
          exact ⟨below_setRow' hB.out (Nat.le_refl _) _, (fun _ => rfl), fun f h => by rw [hn.out] at h; cases h⟩
        | some q =>
          obtain ⟨N, u⟩ := q
          rw [hre] at p3
          have hcf := Lib.hid p3
          obtain ⟨e1, e2, e3⟩ := rd_some hre
          have hN64 := Lib.hid (readF_some hbb.out hre).1
          have hS2 := Lib.hid (hS.out.mono fun e w' h => (show e = .returned (.tuple #[.int .u64 ((N : Nat) : Int), .int .i64 ((u : Nat) : Int), .int .i64 0]) ∧ Below W.heap.size W w' from ⟨by rw [h.1, e1, e2, e3], h.2⟩))
          clear hS p1 p2 p3 hre hd e1 e2 e3
          go_enter Try.func20, Try.ntmps20
          go_upto_region 4 with fail
          change Code.wp _ _ _ _ ((w.alloc (.cells ((kF 0).c (.slice none 0 0) (.slice none 0 0)) 26)).alloc (.cells ((kF k).c (.slice none 0 0) (.slice none 0 0)) 26))
          rw [← hW]
          clear hW
          have f1 := frozen_of_row _ (w.heap.size + 1) 1 _ _ hf.out
          have f2 := frozen_of_row _ (w.heap.size + 1) 2 _ _ hf.out
          have f3 := frozen_of_row _ (w.heap.size + 1) 3 _ _ hf.out
          obtain ⟨d0, d1, d2, d3⟩ := cellsF hf.out
          dsimp only [kF] at d0 d1
          go_upto_region 7 with (first | (go_at_call 22; (with_reducible refine (hD.out _).mono ?_); rintro e w2 ⟨rfl, rfl⟩) | (go_at_call 37; (with_reducible refine (hS2.out).mono ?_); rintro e w3 ⟨rfl, q2⟩; replace hs := Lib.hid (rowB hs.out q2 (Array.getElem?_eq_some_iff.1 hs.out).1); replace hf := Lib.hid (rowB hf.out q2 (Array.getElem?_eq_some_iff.1 hf.out).1); replace hB := Lib.hid (hB.out.trans (q2.mono hB.out.size)); replace hrb := Lib.hid (hrb.out.mono q2); clear q2; clear f1 f2 f3 d0 d1 d2 d3; have f1 := frozen_of_row _ (w.heap.size + 1) 1 _ _ hf.out; have f2 := frozen_of_row _ (w.heap.size + 1) 2 _ _ hf.out; have f3 := frozen_of_row _ (w.heap.size + 1) 3 _ _ hf.out; obtain ⟨d0, d1, d2, d3⟩ := cellsF hf.out; dsimp only [kF] at d0 d1))
          rw [setN hf.out N]
          replace hs := Lib.hid ((setRow_other _ (w.heap.size + 1) w.heap.size ((⟨k, N, 0, [], []⟩ : Fr).c (.slice none 0 0) (.slice none 0 0)) (by omega)).trans hs.out)
          replace hf := Lib.hid (setRow_heap _ (w.heap.size + 1) _ ((⟨k, N, 0, [], []⟩ : Fr).c (.slice none 0 0) (.slice none 0 0)) _ _ hf.out)
          replace hB := Lib.hid (below_setRow' hB.out (Nat.le_succ w.heap.size) ((⟨k, N, 0, [], []⟩ : Fr).c (.slice none 0 0) (.slice none 0 0)))
          replace hrb := Lib.hid (hrbW.out.mono hB.out)
          clear f1 f2 f3 d0 d1 d2 d3
          go_upto_region 14 with fail
          obtain ⟨wz, hwz⟩ : ∃ wz : World, wz = w3.setRow (w.heap.size + 1) ((⟨k, N, 0, [], []⟩ : Fr).c (.slice none 0 0) (.slice none 0 0)) := ⟨_, rfl⟩
          rw [← hwz]
          have hi0 : RdI wz (.slice none 0 0) (⟨k, N, 0, [], []⟩ : Fr).n (⟨k, N, 0, [], []⟩ : Fr).F := by rw [hwz]; exact (show RdI _ (.slice none 0 0) 0 [] from .inl ⟨none, 0, rfl, fun _ => rfl, rfl, rfl⟩)
          have ho0 : RdS wz (.slice none 0 0) (⟨k, N, 0, [], []⟩ : Fr).L := by rw [hwz]; exact RdS.nil _
          have hs0 := hs.out
          have hf0 := hf.out
          have hB0 := hB.out
          have hrb0 := hrb.out
          rw [← hwz] at hs0 hf0 hB0 hrb0
          replace hs := Lib.hid hs0
          replace hf := Lib.hid hf0
          replace hB := Lib.hid hB0
          replace hrb := Lib.hid hrb0
          clear hs0 hf0 hB0 hrb0
          have hiz := Lib.hid hi0
          have hoz := Lib.hid ho0
          clear hi0 ho0 hwz
          have hQ := Lib.hid (Below.refl wz.heap.size wz)
          have ffit := (show (⟨k, N, 0, [], []⟩ : Fr).Fit from ⟨hfk.out, hN64.out, Nat.zero_le _, bytes_nil, rfl, Nat.zero_le _, (fun i => by rw [num_nil]; exact bytes_nil), fun i => by rw [num_nil]; simp⟩)
          have hC := Lib.hid (fun (wx : World) (h : Below wz.heap.size wz wx) => rCheckF_any (⟨k, N, 0, [], []⟩ : Fr) ffit _ _ wx (hiz.out.mono h) (hoz.out.mono h))
          cases hok : frOk (⟨k, N, 0, [], []⟩ : Fr)
          · rw [chkR_not hok] at hC
            have hn := Lib.hid (hcb.out (⟨k, N, 0, [], []⟩ : Fr) hcf.out hok)
            clear hok
            go_wp2_with (first
              | (refine wpList_load_row_g rfl 26 _ rfl (w.heap.size + 1) rfl 26 ((⟨k, N, 0, [], []⟩ : Fr).c (.slice none 0 0) (.slice none 0 0)) (0, 0) _ hf.out Try.underlying26 rfl info_frame ?_)
              | (go_at_call 16; (with_reducible refine (hC.out _ hQ.out).mono ?_); rintro e w3 ⟨rfl, h3⟩; replace hQ := Lib.hid (hQ.out.trans (Below.mono h3 hQ.out.size)); replace hs := Lib.hid (rowB hs.out h3 (Array.getElem?_eq_some_iff.1 hs.out).1); replace hf := Lib.hid (rowB hf.out h3 (Array.getElem?_eq_some_iff.1 hf.out).1); replace hB := Lib.hid (hB.out.trans (h3.mono hB.out.size)); replace hrb := Lib.hid (hrb.out.mono h3); (try replace hO := Lib.hid (hO.out.mono h3)); clear h3)
              | (refine wpList_store_row rfl 26 _ _ rfl w.heap.size ((kF 0).c (.slice none 0 0) (.slice none 0 0)) rfl rfl 26 _ hs.out info_frame rfl (fr_one _ _ _ _ _ _ _) ?_))
            refine bodyPost_ret (results_row_tmp rfl _ _ w.heap.size 26 _ _ _ rfl (setRow_heap _ _ _ _ _ _ hs.out) Try.underlying26 rfl info_frame) rfl ?_
            exact ⟨below_setRow' hB.out (Nat.le_refl _) _, (fun _ => rfl), fun f h => by rw [hn.out] at h; cases h⟩
          · rw [chkR_yes hok] at hC
            have hby := Lib.hid (fun (wx : World) (h : Below wz.heap.size wz wx) => rBytesF_any (⟨k, N, 0, [], []⟩ : Fr) ffit (frOk_parts hok).1 _ _ wx (hiz.out.mono h) (hoz.out.mono h))
            have hlen := frB_short ffit (frOk_parts hok).1
            obtain ⟨ZL, hZL⟩ : ∃ ZL, (frB (⟨k, N, 0, [], []⟩ : Fr)).length = ZL := ⟨_, rfl⟩
            rw [hZL] at hlen
            have hZL' := Lib.hid hZL
            clear hZL
            have hsb := Lib.hid (fun (va : Value) (wx : World) (ha : RdB wx va (frB (⟨k, N, 0, [], []⟩ : Fr))) (hb : RdB wx (.slice (some ⟨bb, o, none⟩) NB bc) b) => (same_any va _ (frB (⟨k, N, 0, [], []⟩ : Fr)) b wx (by rw [hZL'.out]; omega) ha hb).mono fun e w' ⟨q1, q2⟩ => (show e = Ending.returned (.bool (sameF (frB (⟨k, N, 0, [], []⟩ : Fr)) b)) ∧ Below wx.heap.size wx w' from ⟨q1, q2.below (Below.refl _ _)⟩))
            cases hsame : sameF (frB (⟨k, N, 0, [], []⟩ : Fr)) b
            · have hn := Lib.hid (hcs.out (⟨k, N, 0, [], []⟩ : Fr) hcf.out hok hsame)
              rw [hsame] at hsb
              clear hok hsame
              go_wp2_with (first
                | (refine wpList_load_row_g rfl 26 _ rfl (w.heap.size + 1) rfl 26 ((⟨k, N, 0, [], []⟩ : Fr).c (.slice none 0 0) (.slice none 0 0)) (0, 0) _ hf.out Try.underlying26 rfl info_frame ?_)
                | (go_at_call 16; (with_reducible refine (hC.out _ hQ.out).mono ?_); rintro e w3 ⟨rfl, h3⟩; replace hQ := Lib.hid (hQ.out.trans (Below.mono h3 hQ.out.size)); replace hs := Lib.hid (rowB hs.out h3 (Array.getElem?_eq_some_iff.1 hs.out).1); replace hf := Lib.hid (rowB hf.out h3 (Array.getElem?_eq_some_iff.1 hf.out).1); replace hB := Lib.hid (hB.out.trans (h3.mono hB.out.size)); replace hrb := Lib.hid (hrb.out.mono h3); (try replace hO := Lib.hid (hO.out.mono h3)); clear h3)
                | (go_at_call 29; (with_reducible refine (hby.out _ hQ.out).mono ?_); rintro e w3 ⟨sv, rfl, hO0, h3⟩; replace hQ := Lib.hid (hQ.out.trans (Below.mono h3 hQ.out.size)); replace hs := Lib.hid (rowB hs.out h3 (Array.getElem?_eq_some_iff.1 hs.out).1); replace hf := Lib.hid (rowB hf.out h3 (Array.getElem?_eq_some_iff.1 hf.out).1); replace hB := Lib.hid (hB.out.trans (h3.mono hB.out.size)); replace hrb := Lib.hid (hrb.out.mono h3); (try replace hO := Lib.hid (hO.out.mono h3)); clear h3; have hO := Lib.hid hO0.rd; obtain ⟨sa, sc, rfl⟩ := own_slice hO0 _ hZL'.out; clear hO0)
                | (go_at_call 17; (with_reducible refine (hsb.out _ _ hO.out hrb.out).mono ?_); rintro e w3 ⟨rfl, h3⟩; replace hQ := Lib.hid (hQ.out.trans (Below.mono h3 hQ.out.size)); replace hs := Lib.hid (rowB hs.out h3 (Array.getElem?_eq_some_iff.1 hs.out).1); replace hf := Lib.hid (rowB hf.out h3 (Array.getElem?_eq_some_iff.1 hf.out).1); replace hB := Lib.hid (hB.out.trans (h3.mono hB.out.size)); replace hrb := Lib.hid (hrb.out.mono h3); (try replace hO := Lib.hid (hO.out.mono h3)); clear h3)
                | (refine wpList_store_row rfl 26 _ _ rfl w.heap.size ((kF 0).c (.slice none 0 0) (.slice none 0 0)) rfl rfl 26 _ hs.out info_frame rfl (fr_one _ _ _ _ _ _ _) ?_))
              refine bodyPost_ret (results_row_tmp rfl _ _ w.heap.size 26 _ _ _ rfl (setRow_heap _ _ _ _ _ _ hs.out) Try.underlying26 rfl info_frame) rfl ?_
              exact ⟨below_setRow' hB.out (Nat.le_refl _) _, (fun _ => rfl), fun f h => by rw [hn.out] at h; cases h⟩
            · have hn := Lib.hid (hcy.out (⟨k, N, 0, [], []⟩ : Fr) hcf.out hok hsame ffit)
              rw [hsame] at hsb
              clear hok hsame
              go_wp2_with (first
                | (refine wpList_load_row_g rfl 26 _ rfl (w.heap.size + 1) rfl 26 ((⟨k, N, 0, [], []⟩ : Fr).c (.slice none 0 0) (.slice none 0 0)) (0, 0) _ hf.out Try.underlying26 rfl info_frame ?_)
                | (go_at_call 16; (with_reducible refine (hC.out _ hQ.out).mono ?_); rintro e w3 ⟨rfl, h3⟩; replace hQ := Lib.hid (hQ.out.trans (Below.mono h3 hQ.out.size)); replace hs := Lib.hid (rowB hs.out h3 (Array.getElem?_eq_some_iff.1 hs.out).1); replace hf := Lib.hid (rowB hf.out h3 (Array.getElem?_eq_some_iff.1 hf.out).1); replace hB := Lib.hid (hB.out.trans (h3.mono hB.out.size)); replace hrb := Lib.hid (hrb.out.mono h3); (try replace hO := Lib.hid (hO.out.mono h3)); clear h3)
                | (go_at_call 29; (with_reducible refine (hby.out _ hQ.out).mono ?_); rintro e w3 ⟨sv, rfl, hO0, h3⟩; replace hQ := Lib.hid (hQ.out.trans (Below.mono h3 hQ.out.size)); replace hs := Lib.hid (rowB hs.out h3 (Array.getElem?_eq_some_iff.1 hs.out).1); replace hf := Lib.hid (rowB hf.out h3 (Array.getElem?_eq_some_iff.1 hf.out).1); replace hB := Lib.hid (hB.out.trans (h3.mono hB.out.size)); replace hrb := Lib.hid (hrb.out.mono h3); (try replace hO := Lib.hid (hO.out.mono h3)); clear h3; have hO := Lib.hid hO0.rd; obtain ⟨sa, sc, rfl⟩ := own_slice hO0 _ hZL'.out; clear hO0)
                | (go_at_call 17; (with_reducible refine (hsb.out _ _ hO.out hrb.out).mono ?_); rintro e w3 ⟨rfl, h3⟩; replace hQ := Lib.hid (hQ.out.trans (Below.mono h3 hQ.out.size)); replace hs := Lib.hid (rowB hs.out h3 (Array.getElem?_eq_some_iff.1 hs.out).1); replace hf := Lib.hid (rowB hf.out h3 (Array.getElem?_eq_some_iff.1 hf.out).1); replace hB := Lib.hid (hB.out.trans (h3.mono hB.out.size)); replace hrb := Lib.hid (hrb.out.mono h3); (try replace hO := Lib.hid (hO.out.mono h3)); clear h3)
                | (refine wpList_store_row rfl 26 _ _ rfl w.heap.size ((⟨k, N, 0, [], []⟩ : Fr).c (.slice none 0 0) (.slice none 0 0)) rfl rfl 26 _ hs.out info_frame rfl (fr_one _ _ _ _ _ _ _) ?_))
              refine bodyPost_ret (results_row_tmp rfl _ _ w.heap.size 26 _ _ _ rfl (setRow_heap _ _ _ _ _ _ hs.out) Try.underlying26 rfl info_frame) rfl ?_
              exact ⟨below_setRow' hB.out (Nat.le_refl _) _, (fun h => by rw [hn.out] at h; cases h), fun f' h => by
                rw [hn.out] at h
                obtain rfl := Option.some.inj h
                exact ⟨_, _, rfl, heldI_nil _ _, heldS_nil _ _⟩⟩
    · rw [hd] at hD
      replace p1 := p1.out hd
      cases hre : readC (b.drop 1) 40 32 with
      | none =>
        rw [hre] at p1
        have hcf := Lib.hid p1
        have hS2 := Lib.hid (rreadIDs_no (b.drop 1) _ 40 (by decide) (by decide) W hrx.out hbb.out (by have := hlb.out; omega) hre)
        clear p1 p2 p3 hre hd
        go_enter Try.func20, Try.ntmps20
        go_upto_region 4 with fail
        change Code.wp _ _ _ _ ((w.alloc (.cells ((kF 0).c (.slice none 0 0) (.slice none 0 0)) 26)).alloc (.cells ((kF k).c (.slice none 0 0) (.slice none 0 0)) 26))
        rw [← hW]
        clear hW
        have f1 := frozen_of_row _ (w.heap.size + 1) 1 _ _ hf.out
        have f2 := frozen_of_row _ (w.heap.size + 1) 2 _ _ hf.out
        have f3 := frozen_of_row _ (w.heap.size + 1) 3 _ _ hf.out
        obtain ⟨d0, d1, d2, d3⟩ := cellsF hf.out
        dsimp only [kF] at d0 d1
        go_upto_region 11 with (first | (go_at_call 22; (with_reducible refine (hD.out _).mono ?_); rintro e w2 ⟨rfl, rfl⟩) | (go_at_call 35; (with_reducible refine (hS2.out).mono ?_); rintro e w3 ⟨rfl, q2⟩; replace hs := Lib.hid (rowB hs.out q2 (Array.getElem?_eq_some_iff.1 hs.out).1); replace hf := Lib.hid (rowB hf.out q2 (Array.getElem?_eq_some_iff.1 hf.out).1); replace hB := Lib.hid (hB.out.trans (q2.mono hB.out.size)); replace hrb := Lib.hid (hrb.out.mono q2); clear q2; clear f1 f2 f3 d0 d1 d2 d3; have f1 := frozen_of_row _ (w.heap.size + 1) 1 _ _ hf.out; have f2 := frozen_of_row _ (w.heap.size + 1) 2 _ _ hf.out; have f3 := frozen_of_row _ (w.heap.size + 1) 3 _ _ hf.out; obtain ⟨d0, d1, d2, d3⟩ := cellsF hf.out; dsimp only [kF] at d0 d1))
        rw [setI hf.out (.slice none 0 0) 0 []]
        replace hs := Lib.hid ((setRow_other _ (w.heap.size + 1) w.heap.size ((⟨k, 0, 0, [], []⟩ : Fr).c (.slice none 0 0) (.slice none 0 0)) (by omega)).trans hs.out)
        replace hf := Lib.hid (setRow_heap _ (w.heap.size + 1) _ ((⟨k, 0, 0, [], []⟩ : Fr).c (.slice none 0 0) (.slice none 0 0)) _ _ hf.out)
        replace hB := Lib.hid (below_setRow' hB.out (Nat.le_succ w.heap.size) ((⟨k, 0, 0, [], []⟩ : Fr).c (.slice none 0 0) (.slice none 0 0)))
        replace hrb := Lib.hid (hrbW.out.mono hB.out)
        clear f1 f2 f3 d0 d1 d2 d3
        go_upto_region 14 with fail
        have hn := Lib.hid (hcn.out (fun g h => by rw [hcf.out] at h; cases h))
        go_wp2_with (refine wpList_store_row rfl 26 _ _ rfl w.heap.size ((kF 0).c (.slice none 0 0) (.slice none 0 0)) rfl rfl 26 _ hs.out info_frame rfl (fr_one _ _ _ _ _ _ _) ?_)
        refine bodyPost_ret (results_row_tmp rfl _ _ w.heap.size 26 _ _ _ rfl (setRow_heap _ _ _ _ _ _ hs.out) Try.underlying26 rfl info_frame) rfl ?_
        exact ⟨below_setRow' hB.out (Nat.le_refl _) _, (fun _ => rfl), fun f h => by rw [hn.out] at h; cases h⟩
      | some q =>
        obtain ⟨n, x⟩ := q
        rw [hre] at p1
        simp only at p1
        have hS := Lib.hid (rreadIDs_ok (b.drop 1) _ 40 (by decide) (by decide) W hrx.out hbb.out (by have := hlb.out; omega) n x hre)
        obtain ⟨c1, c2, c3⟩ := readC_some hre
        obtain ⟨a1, a2, a3, a4⟩ := readF_some hbb.out c1
        have hlF := Lib.hid (show (((b.drop 1).drop x).take (n * 32)).length = 32 * n by rw [List.length_take, List.length_drop]; omega)
        have hFb := Lib.hid (show Bytes (((b.drop 1).drop x).take (n * 32)) from bytes_take _ _ (bytes_drop _ _ hbb.out))
        have hn40 : n ≤ 1000000 := by omega
        have hn5 := Lib.hid (show n ≤ 100000 by omega)
        clear hre c1 c2 c3 a1 a2 a3 a4
        generalize ((b.drop 1).drop x).take (n * 32) = F at *
        generalize x + n * 32 = u at *
        cases hri : riseF F n
        · rw [hri, if_neg (by decide)] at p1
          have hcf := Lib.hid p1
          have hS2 := Lib.hid (hS.out.mono fun e w' h => (show e = .returned (.tuple #[.slice none 0 0, .int .i64 0, .int .i64 12]) ∧ Below W.heap.size W w' from rids_no hri h))
          clear hS p1 p2 p3 hri hd
          go_enter Try.func20, Try.ntmps20
          go_upto_region 4 with fail
          change Code.wp _ _ _ _ ((w.alloc (.cells ((kF 0).c (.slice none 0 0) (.slice none 0 0)) 26)).alloc (.cells ((kF k).c (.slice none 0 0) (.slice none 0 0)) 26))
          rw [← hW]
          clear hW
          have f1 := frozen_of_row _ (w.heap.size + 1) 1 _ _ hf.out
          have f2 := frozen_of_row _ (w.heap.size + 1) 2 _ _ hf.out
          have f3 := frozen_of_row _ (w.heap.size + 1) 3 _ _ hf.out
          obtain ⟨d0, d1, d2, d3⟩ := cellsF hf.out
          dsimp only [kF] at d0 d1
          go_upto_region 11 with (first | (go_at_call 22; (with_reducible refine (hD.out _).mono ?_); rintro e w2 ⟨rfl, rfl⟩) | (go_at_call 35; (with_reducible refine (hS2.out).mono ?_); rintro e w3 ⟨rfl, q2⟩; replace hs := Lib.hid (rowB hs.out q2 (Array.getElem?_eq_some_iff.1 hs.out).1); replace hf := Lib.hid (rowB hf.out q2 (Array.getElem?_eq_some_iff.1 hf.out).1); replace hB := Lib.hid (hB.out.trans (q2.mono hB.out.size)); replace hrb := Lib.hid (hrb.out.mono q2); clear q2; clear f1 f2 f3 d0 d1 d2 d3; have f1 := frozen_of_row _ (w.heap.size + 1) 1 _ _ hf.out; have f2 := frozen_of_row _ (w.heap.size + 1) 2 _ _ hf.out; have f3 := frozen_of_row _ (w.heap.size + 1) 3 _ _ hf.out; obtain ⟨d0, d1, d2, d3⟩ := cellsF hf.out; dsimp only [kF] at d0 d1))
          rw [setI hf.out (.slice none 0 0) 0 []]
          replace hs := Lib.hid ((setRow_other _ (w.heap.size + 1) w.heap.size ((⟨k, 0, 0, [], []⟩ : Fr).c (.slice none 0 0) (.slice none 0 0)) (by omega)).trans hs.out)
          replace hf := Lib.hid (setRow_heap _ (w.heap.size + 1) _ ((⟨k, 0, 0, [], []⟩ : Fr).c (.slice none 0 0) (.slice none 0 0)) _ _ hf.out)
          replace hB := Lib.hid (below_setRow' hB.out (Nat.le_succ w.heap.size) ((⟨k, 0, 0, [], []⟩ : Fr).c (.slice none 0 0) (.slice none 0 0)))
          replace hrb := Lib.hid (hrbW.out.mono hB.out)
          clear f1 f2 f3 d0 d1 d2 d3
          go_upto_region 14 with fail
          have hn := Lib.hid (hcn.out (fun g h => by rw [hcf.out] at h; cases h))
          go_wp2_with (refine wpList_store_row rfl 26 _ _ rfl w.heap.size ((kF 0).c (.slice none 0 0) (.slice none 0 0)) rfl rfl 26 _ hs.out info_frame rfl (fr_one _ _ _ _ _ _ _) ?_)
          refine bodyPost_ret (results_row_tmp rfl _ _ w.heap.size 26 _ _ _ rfl (setRow_heap _ _ _ _ _ _ hs.out) Try.underlying26 rfl info_frame) rfl ?_
          exact ⟨below_setRow' hB.out (Nat.le_refl _) _, (fun _ => rfl), fun f h => by rw [hn.out] at h; cases h⟩
        · rw [hri, if_pos rfl] at p1
          have hcf := Lib.hid p1
          have hS2 := Lib.hid (hS.out.mono fun e w' h => (show ∃ va vc, e = .returned (.tuple #[.slice va n vc, .int .i64 ((u : Nat) : Int), .int .i64 0]) ∧ HeldI W.heap.size w' (.slice va n vc) n F ∧ Below W.heap.size W w' from rids_yes hri h))
          clear hS p1 p2 p3 hri hd
          go_enter Try.func20, Try.ntmps20
          go_upto_region 4 with fail
          change Code.wp _ _ _ _ ((w.alloc (.cells ((kF 0).c (.slice none 0 0) (.slice none 0 0)) 26)).alloc (.cells ((kF k).c (.slice none 0 0) (.slice none 0 0)) 26))
          rw [← hW]
          clear hW
          have f1 := frozen_of_row _ (w.heap.size + 1) 1 _ _ hf.out
          have f2 := frozen_of_row _ (w.heap.size + 1) 2 _ _ hf.out
          have f3 := frozen_of_row _ (w.heap.size + 1) 3 _ _ hf.out
          obtain ⟨d0, d1, d2, d3⟩ := cellsF hf.out
          dsimp only [kF] at d0 d1
          go_upto_region 11 with (first | (go_at_call 22; (with_reducible refine (hD.out _).mono ?_); rintro e w2 ⟨rfl, rfl⟩) | (go_at_call 35; (with_reducible refine (hS2.out).mono ?_); rintro e w3 ⟨va, vc, rfl, q3, q2⟩; have hH := Lib.hid q3; replace hs := Lib.hid (rowB hs.out q2 (Array.getElem?_eq_some_iff.1 hs.out).1); replace hf := Lib.hid (rowB hf.out q2 (Array.getElem?_eq_some_iff.1 hf.out).1); replace hB := Lib.hid (hB.out.trans (q2.mono hB.out.size)); replace hrb := Lib.hid (hrb.out.mono q2); clear q2; clear f1 f2 f3 d0 d1 d2 d3; have f1 := frozen_of_row _ (w.heap.size + 1) 1 _ _ hf.out; have f2 := frozen_of_row _ (w.heap.size + 1) 2 _ _ hf.out; have f3 := frozen_of_row _ (w.heap.size + 1) 3 _ _ hf.out; obtain ⟨d0, d1, d2, d3⟩ := cellsF hf.out; dsimp only [kF] at d0 d1; clear q3))
          rw [setI hf.out (.slice va n vc) n F]
          replace hs := Lib.hid ((setRow_other _ (w.heap.size + 1) w.heap.size ((⟨k, 0, n, F, []⟩ : Fr).c (.slice va n vc) (.slice none 0 0)) (by omega)).trans hs.out)
          replace hf := Lib.hid (setRow_heap _ (w.heap.size + 1) _ ((⟨k, 0, n, F, []⟩ : Fr).c (.slice va n vc) (.slice none 0 0)) _ _ hf.out)
          replace hB := Lib.hid (below_setRow' hB.out (Nat.le_succ w.heap.size) ((⟨k, 0, n, F, []⟩ : Fr).c (.slice va n vc) (.slice none 0 0)))
          replace hrb := Lib.hid (hrbW.out.mono hB.out)
          clear f1 f2 f3 d0 d1 d2 d3
          go_upto_region 14 with fail
          obtain ⟨wz, hwz⟩ : ∃ wz : World, wz = w3.setRow (w.heap.size + 1) ((⟨k, 0, n, F, []⟩ : Fr).c (.slice va n vc) (.slice none 0 0)) := ⟨_, rfl⟩
          rw [← hwz]
          have hi0 : RdI wz (.slice va n vc) (⟨k, 0, n, F, []⟩ : Fr).n (⟨k, 0, n, F, []⟩ : Fr).F := by rw [hwz]; exact heldI_rd (held_setRow hH.out (by have := hszh.out; omega) _)
          have ho0 : RdS wz (.slice none 0 0) (⟨k, 0, n, F, []⟩ : Fr).L := by rw [hwz]; exact RdS.nil _
          have hs0 := hs.out
          have hf0 := hf.out
          have hB0 := hB.out
          have hrb0 := hrb.out
          rw [← hwz] at hs0 hf0 hB0 hrb0
          replace hs := Lib.hid hs0
          replace hf := Lib.hid hf0
          replace hB := Lib.hid hB0
          replace hrb := Lib.hid hrb0
          clear hs0 hf0 hB0 hrb0
          have hiz := Lib.hid hi0
          have hoz := Lib.hid ho0
          have hHz : HeldI W.heap.size wz (.slice va n vc) n F := by rw [hwz]; exact held_setRow hH.out (by have := hszh.out; omega) _
          replace hH := Lib.hid hHz
          clear hi0 ho0 hwz hHz
          have hQ := Lib.hid (Below.refl wz.heap.size wz)
          have ffit := (show (⟨k, 0, n, F, []⟩ : Fr).Fit from ⟨hfk.out, (by decide : 0 < 18446744073709551616), hn5.out, hFb.out, hlF.out, Nat.zero_le _, (fun i => by rw [num_nil]; exact bytes_nil), fun i => by rw [num_nil]; simp⟩)
          have hC := Lib.hid (fun (wx : World) (h : Below wz.heap.size wz wx) => rCheckF_any (⟨k, 0, n, F, []⟩ : Fr) ffit _ _ wx (hiz.out.mono h) (hoz.out.mono h))
          cases hok : frOk (⟨k, 0, n, F, []⟩ : Fr)
          · rw [chkR_not hok] at hC
            have hn := Lib.hid (hcb.out (⟨k, 0, n, F, []⟩ : Fr) hcf.out hok)
            clear hok
            go_wp2_with (first
              | (refine wpList_load_row_g rfl 26 _ rfl (w.heap.size + 1) rfl 26 ((⟨k, 0, n, F, []⟩ : Fr).c (.slice va n vc) (.slice none 0 0)) (0, 0) _ hf.out Try.underlying26 rfl info_frame ?_)
              | (go_at_call 16; (with_reducible refine (hC.out _ hQ.out).mono ?_); rintro e w3 ⟨rfl, h3⟩; replace hQ := Lib.hid (hQ.out.trans (Below.mono h3 hQ.out.size)); replace hs := Lib.hid (rowB hs.out h3 (Array.getElem?_eq_some_iff.1 hs.out).1); replace hf := Lib.hid (rowB hf.out h3 (Array.getElem?_eq_some_iff.1 hf.out).1); replace hB := Lib.hid (hB.out.trans (h3.mono hB.out.size)); replace hrb := Lib.hid (hrb.out.mono h3); (try replace hO := Lib.hid (hO.out.mono h3)); (try replace hH := Lib.hid (heldI_mono hH.out h3)); clear h3)
              | (refine wpList_store_row rfl 26 _ _ rfl w.heap.size ((kF 0).c (.slice none 0 0) (.slice none 0 0)) rfl rfl 26 _ hs.out info_frame rfl (fr_one _ _ _ _ _ _ _) ?_))
            refine bodyPost_ret (results_row_tmp rfl _ _ w.heap.size 26 _ _ _ rfl (setRow_heap _ _ _ _ _ _ hs.out) Try.underlying26 rfl info_frame) rfl ?_
            exact ⟨below_setRow' hB.out (Nat.le_refl _) _, (fun _ => rfl), fun f h => by rw [hn.out] at h; cases h⟩
          · rw [chkR_yes hok] at hC
            have hby := Lib.hid (fun (wx : World) (h : Below wz.heap.size wz wx) => rBytesF_any (⟨k, 0, n, F, []⟩ : Fr) ffit (frOk_parts hok).1 _ _ wx (hiz.out.mono h) (hoz.out.mono h))
            have hlen := frB_short ffit (frOk_parts hok).1
            obtain ⟨ZL, hZL⟩ : ∃ ZL, (frB (⟨k, 0, n, F, []⟩ : Fr)).length = ZL := ⟨_, rfl⟩
            rw [hZL] at hlen
            have hZL' := Lib.hid hZL
            clear hZL
            have hsb := Lib.hid (fun (va : Value) (wx : World) (ha : RdB wx va (frB (⟨k, 0, n, F, []⟩ : Fr))) (hb : RdB wx (.slice (some ⟨bb, o, none⟩) NB bc) b) => (same_any va _ (frB (⟨k, 0, n, F, []⟩ : Fr)) b wx (by rw [hZL'.out]; omega) ha hb).mono fun e w' ⟨q1, q2⟩ => (show e = Ending.returned (.bool (sameF (frB (⟨k, 0, n, F, []⟩ : Fr)) b)) ∧ Below wx.heap.size wx w' from ⟨q1, q2.below (Below.refl _ _)⟩))
            cases hsame : sameF (frB (⟨k, 0, n, F, []⟩ : Fr)) b
            · have hn := Lib.hid (hcs.out (⟨k, 0, n, F, []⟩ : Fr) hcf.out hok hsame)
              rw [hsame] at hsb
              clear hok hsame
              go_wp2_with (first
                | (refine wpList_load_row_g rfl 26 _ rfl (w.heap.size + 1) rfl 26 ((⟨k, 0, n, F, []⟩ : Fr).c (.slice va n vc) (.slice none 0 0)) (0, 0) _ hf.out Try.underlying26 rfl info_frame ?_)
                | (go_at_call 16; (with_reducible refine (hC.out _ hQ.out).mono ?_); rintro e w3 ⟨rfl, h3⟩; replace hQ := Lib.hid (hQ.out.trans (Below.mono h3 hQ.out.size)); replace hs := Lib.hid (rowB hs.out h3 (Array.getElem?_eq_some_iff.1 hs.out).1); replace hf := Lib.hid (rowB hf.out h3 (Array.getElem?_eq_some_iff.1 hf.out).1); replace hB := Lib.hid (hB.out.trans (h3.mono hB.out.size)); replace hrb := Lib.hid (hrb.out.mono h3); (try replace hO := Lib.hid (hO.out.mono h3)); (try replace hH := Lib.hid (heldI_mono hH.out h3)); clear h3)
                | (go_at_call 29; (with_reducible refine (hby.out _ hQ.out).mono ?_); rintro e w3 ⟨sv, rfl, hO0, h3⟩; replace hQ := Lib.hid (hQ.out.trans (Below.mono h3 hQ.out.size)); replace hs := Lib.hid (rowB hs.out h3 (Array.getElem?_eq_some_iff.1 hs.out).1); replace hf := Lib.hid (rowB hf.out h3 (Array.getElem?_eq_some_iff.1 hf.out).1); replace hB := Lib.hid (hB.out.trans (h3.mono hB.out.size)); replace hrb := Lib.hid (hrb.out.mono h3); (try replace hO := Lib.hid (hO.out.mono h3)); (try replace hH := Lib.hid (heldI_mono hH.out h3)); clear h3; have hO := Lib.hid hO0.rd; obtain ⟨sa, sc, rfl⟩ := own_slice hO0 _ hZL'.out; clear hO0)
                | (go_at_call 17; (with_reducible refine (hsb.out _ _ hO.out hrb.out).mono ?_); rintro e w3 ⟨rfl, h3⟩; replace hQ := Lib.hid (hQ.out.trans (Below.mono h3 hQ.out.size)); replace hs := Lib.hid (rowB hs.out h3 (Array.getElem?_eq_some_iff.1 hs.out).1); replace hf := Lib.hid (rowB hf.out h3 (Array.getElem?_eq_some_iff.1 hf.out).1); replace hB := Lib.hid (hB.out.trans (h3.mono hB.out.size)); replace hrb := Lib.hid (hrb.out.mono h3); (try replace hO := Lib.hid (hO.out.mono h3)); (try replace hH := Lib.hid (heldI_mono hH.out h3)); clear h3)
                | (refine wpList_store_row rfl 26 _ _ rfl w.heap.size ((kF 0).c (.slice none 0 0) (.slice none 0 0)) rfl rfl 26 _ hs.out info_frame rfl (fr_one _ _ _ _ _ _ _) ?_))
              refine bodyPost_ret (results_row_tmp rfl _ _ w.heap.size 26 _ _ _ rfl (setRow_heap _ _ _ _ _ _ hs.out) Try.underlying26 rfl info_frame) rfl ?_
              exact ⟨below_setRow' hB.out (Nat.le_refl _) _, (fun _ => rfl), fun f h => by rw [hn.out] at h; cases h⟩
            · have hn := Lib.hid (hcy.out (⟨k, 0, n, F, []⟩ : Fr) hcf.out hok hsame ffit)
              rw [hsame] at hsb
              clear hok hsame
              go_wp2_with (first
                | (refine wpList_load_row_g rfl 26 _ rfl (w.heap.size + 1) rfl 26 ((⟨k, 0, n, F, []⟩ : Fr).c (.slice va n vc) (.slice none 0 0)) (0, 0) _ hf.out Try.underlying26 rfl info_frame ?_)
                | (go_at_call 16; (with_reducible refine (hC.out _ hQ.out).mono ?_); rintro e w3 ⟨rfl, h3⟩; replace hQ := Lib.hid (hQ.out.trans (Below.mono h3 hQ.out.size)); replace hs := Lib.hid (rowB hs.out h3 (Array.getElem?_eq_some_iff.1 hs.out).1); replace hf := Lib.hid (rowB hf.out h3 (Array.getElem?_eq_some_iff.1 hf.out).1); replace hB := Lib.hid (hB.out.trans (h3.mono hB.out.size)); replace hrb := Lib.hid (hrb.out.mono h3); (try replace hO := Lib.hid (hO.out.mono h3)); (try replace hH := Lib.hid (heldI_mono hH.out h3)); clear h3)
                | (go_at_call 29; (with_reducible refine (hby.out _ hQ.out).mono ?_); rintro e w3 ⟨sv, rfl, hO0, h3⟩; replace hQ := Lib.hid (hQ.out.trans (Below.mono h3 hQ.out.size)); replace hs := Lib.hid (rowB hs.out h3 (Array.getElem?_eq_some_iff.1 hs.out).1); replace hf := Lib.hid (rowB hf.out h3 (Array.getElem?_eq_some_iff.1 hf.out).1); replace hB := Lib.hid (hB.out.trans (h3.mono hB.out.size)); replace hrb := Lib.hid (hrb.out.mono h3); (try replace hO := Lib.hid (hO.out.mono h3)); (try replace hH := Lib.hid (heldI_mono hH.out h3)); clear h3; have hO := Lib.hid hO0.rd; obtain ⟨sa, sc, rfl⟩ := own_slice hO0 _ hZL'.out; clear hO0)
                | (go_at_call 17; (with_reducible refine (hsb.out _ _ hO.out hrb.out).mono ?_); rintro e w3 ⟨rfl, h3⟩; replace hQ := Lib.hid (hQ.out.trans (Below.mono h3 hQ.out.size)); replace hs := Lib.hid (rowB hs.out h3 (Array.getElem?_eq_some_iff.1 hs.out).1); replace hf := Lib.hid (rowB hf.out h3 (Array.getElem?_eq_some_iff.1 hf.out).1); replace hB := Lib.hid (hB.out.trans (h3.mono hB.out.size)); replace hrb := Lib.hid (hrb.out.mono h3); (try replace hO := Lib.hid (hO.out.mono h3)); (try replace hH := Lib.hid (heldI_mono hH.out h3)); clear h3)
                | (refine wpList_store_row rfl 26 _ _ rfl w.heap.size ((⟨k, 0, n, F, []⟩ : Fr).c (.slice va n vc) (.slice none 0 0)) rfl rfl 26 _ hs.out info_frame rfl (fr_one _ _ _ _ _ _ _) ?_))
              refine bodyPost_ret (results_row_tmp rfl _ _ w.heap.size 26 _ _ _ rfl (setRow_heap _ _ _ _ _ _ hs.out) Try.underlying26 rfl info_frame) rfl ?_
              exact ⟨below_setRow' hB.out (Nat.le_refl _) _, (fun h => by rw [hn.out] at h; cases h), fun f' h => by
                rw [hn.out] at h
                obtain rfl := Option.some.inj h
                exact ⟨_, _, rfl, heldI_lower (held_setRow hH.out (by have := hszh.out; omega) _) (by have := hszh.out; omega), heldS_nil _ _⟩⟩
end Go.Proofs.Ytegffpjhdodldaa

/- Texts that the row stands on, part 4. -/
import Derived.Test.YtfaojjleapenaabRWritesFq03
namespace Go.Proofs.Ytfaojjleapenaab
open Go.RowKit Go.Ytfaojjleapenaab
set_option linter.unusedVariables false
theorem range_belowW {w w' : World} {b o : Nat} {cs : List Value} (hr : w.rangeAt b o cs) (hb : b < w.heap.size) (h : Below w.heap.size w w') : w'.rangeAt b o cs :=
  fun j v hv => (h.cell (p := (⟨b, o + j, none⟩ : Addr)) hb).trans (hr j v hv)
theorem range_appW {w : World} {b o : Nat} {xs ys : List Value} (h : w.rangeAt b o (xs ++ ys)) : w.rangeAt b o xs ∧ w.rangeAt b (o + xs.length) ys :=
  ⟨fun j v hv => h j v (by rw [List.getElem?_append_left (List.getElem?_eq_some_iff.1 hv).1]; exact hv), fun j v hv => by
    rw [Nat.add_assoc]; exact h _ v (by rw [List.getElem?_append_right (Nat.le_add_right _ _), Nat.add_sub_cancel_left]; exact hv)⟩
theorem owns_rangeW {w : World} {B z : Nat} {E : TypeId} {v : Value} {m : Nat} {xs : List Value} (h : w.ownsRow B E z v m xs) (hm : m ≠ 0) : ∃ g c, v = .slice (some ⟨g, 0, none⟩) m c ∧ g < w.heap.size ∧ w.rangeAt g 0 xs := by
  rcases h.2 with ⟨_, h0⟩ | ⟨g, cap, cur, rfl, hbg, hgr, hcn, hcm, hcs, hct⟩
  · exact absurd h0 hm
  · refine ⟨g, cap, rfl, (Array.getElem?_eq_some_iff.1 hgr).1, fun j v hv => ?_⟩
    rw [Nat.zero_add, cell_of_row _ _ _ _ _ _ hgr]
    rw [← hct, List.getElem?_take] at hv
    split at hv
    · rw [← Array.getElem?_toList]; exact hv
    · cases hv
theorem qa_load_midW {P : Program} {C : World → Prop} {o : Oper} {a : Act} (ty : TypeId) (x : Operand) (ho : o.op = .load ty x) (b off : Nat) (hx : a.eval x = .pointer (some ⟨b, off, none⟩)) (cs : List Value) (d : TypeDesc)
    (hu : P.underlying ty = some d) (hd : d.isRow = true) (hi : (P.info? ty).map (·.size) = some cs.length) (hS : ∀ w, C w → w.rangeAt b off cs) : ∀ w, C w → o.quietAt P a C w (.agg cs.toArray) := fun w hw => qa_ok (by
  unfold execOp
  simp only [ho, hx, Instr.loadAt, Instr.sureAddr, Sem.run_bind, Sem.run_pure, Result.andThen_ok, run_loadVar_mid w b off ty cs d (hS w hw) hu hd hi])
def splL (k : Int) (n : Nat) (F : List Int) : List Fr := if idsK k = true ∧ n ≤ 60 ∧ riseF F n = true then (if n ≤ 40 then [⟨k, 0, n, F, []⟩] else [⟨k, 0, 40, F.take (32 * 40), []⟩, ⟨k, 0, n - 40, F.drop (32 * 40), []⟩]) else []
def splE (k : Int) (n : Nat) (F : List Int) : Int := if idsK k = true then (if n ≤ 60 then (if riseF F n = true then 0 else 32) else 4) else 2
def nthF (S : List Fr) (i : Nat) : Fr := S[i]?.getD ⟨0, 0, 0, [], []⟩
def RdFs (w : World) (v : Value) (S : List Fr) : Prop := (S = [] ∧ v = .slice none 0 0) ∨ ∃ g c, v = .slice (some ⟨g, 0, none⟩) S.length c ∧ g < w.heap.size ∧ ∀ i, i < S.length → ∃ xa xc, w.rangeAt g (i * 4) ((nthF S i).c (.slice xa (nthF S i).n xc) (.slice none 0 0)).toList ∧ RdI w (.slice xa (nthF S i).n xc) (nthF S i).n (nthF S i).F
theorem RdFs.mono {w w' : World} {v : Value} {S : List Fr} (h : RdFs w v S) (hb : Below w.heap.size w w') : RdFs w' v S := by
  rcases h with h | ⟨g, c, e, hg, h⟩
  · exact .inl h
  · refine .inr ⟨g, c, e, Nat.lt_of_lt_of_le hg hb.size, fun i hi => ?_⟩
    obtain ⟨xa, xc, h1, h2⟩ := h i hi
    exact ⟨xa, xc, range_belowW h1 hg hb, h2.mono hb⟩
theorem RdFs.slice {w : World} {v : Value} {S : List Fr} (h : RdFs w v S) : ∃ a c, v = .slice a S.length c := by
  rcases h with ⟨rfl, rfl⟩ | ⟨g, c, e, _⟩
  · exact ⟨none, 0, rfl⟩
  · exact ⟨_, c, e⟩
theorem split_fs {k : Int} {n : Nat} {F : List Int} {w w' : World} {e : Ending} (h : splitPost k n F w e w') : ∃ a c, e = .returned (.tuple #[.slice a (splL k n F).length c, .int .i64 (splE k n F)]) ∧ RdFs w' (.slice a (splL k n F).length c) (splL k n F) ∧ Below w.heap.size w w' := by
  unfold splitPost at h
  obtain ⟨hb, h⟩ := h
  unfold splL splE
  by_cases h1 : idsK k = true
  · rw [if_pos h1] at h
    by_cases h2 : n ≤ 60
    · rw [if_pos h2] at h
      by_cases h3 : riseF F n = true
      · rw [if_pos h3] at h
        rw [if_pos ⟨h1, h2, h3⟩, if_pos h1, if_pos h2, if_pos h3]
        obtain ⟨v, rfl, ⟨h4, xa, xc, h5, h6⟩ | ⟨h4, xa, xc, ya, yc, h5, h6, h7⟩⟩ := h
        · rw [if_pos h4]
          obtain ⟨g, c, rfl, h8, h9⟩ := owns_rangeW h5 (by decide)
          refine ⟨_, c, rfl, .inr ⟨g, c, rfl, h8, fun i hi => ?_⟩, hb⟩
          match i, hi with
          | 0, _ => exact ⟨xa, xc, by rw [Nat.zero_mul]; exact h9, h6.rd⟩
          | i + 1, hi => exact absurd hi (by simp)
        · rw [if_neg (by omega)]
          obtain ⟨g, c, rfl, h8, h9⟩ := owns_rangeW h5 (by decide)
          refine ⟨_, c, rfl, .inr ⟨g, c, rfl, h8, fun i hi => ?_⟩, hb⟩
          match i, hi with
          | 0, _ => exact ⟨xa, xc, by rw [Nat.zero_mul]; exact (range_appW h9).1, h6.rd⟩
          | 1, _ => exact ⟨ya, yc, (range_appW h9).2, h7.rd⟩
          | i + 2, hi => exact absurd hi (by simp)
      · rw [if_neg h3] at h
        rw [if_neg (fun x => h3 x.2.2), if_pos h1, if_pos h2, if_neg h3]
        exact ⟨none, 0, h, .inl ⟨rfl, rfl⟩, hb⟩
    · rw [if_neg h2] at h
      rw [if_neg (fun x => h2 x.2.1), if_pos h1, if_neg h2]
      exact ⟨none, 0, h, .inl ⟨rfl, rfl⟩, hb⟩
  · rw [if_neg h1] at h
    rw [if_neg (fun x => h1 x.1), if_neg h1]
    exact ⟨none, 0, h, .inl ⟨rfl, rfl⟩, hb⟩
theorem spl_small (k : Int) (n : Nat) (F : List Int) (i : Nat) : (nthF (splL k n F) i).n ≤ 100000 ∧ (nthF (splL k n F) i).L = [] ∧ (splL k n F).length ≤ 2 := by
  unfold splL
  split
  · rename_i h
    split
    · match i with
      | 0 => exact ⟨by show n ≤ 100000; omega, rfl, by simp⟩
      | i + 1 => exact ⟨by simp [nthF], by simp [nthF], by simp⟩
    · match i with
      | 0 => exact ⟨by show 40 ≤ 100000; omega, rfl, by simp⟩
      | 1 => exact ⟨by show n - 40 ≤ 100000; omega, rfl, by simp⟩
      | i + 2 => exact ⟨by simp [nthF], by simp [nthF], by simp⟩
  · exact ⟨by simp [nthF], by simp [nthF], by simp⟩
theorem sameFr_self (f : Fr) : sameFr f f = true := by
  unfold sameFr
  simp [sameF, sameL]
theorem enc_both (f : Fr) (ff : f.Fit) : ∃ (B : List Int) (E : Int), B.length ≤ 100000 ∧
    (∀ (iv ov : Value) (wz : World), RdI wz iv f.n f.F → RdS wz ov f.L → Calls Try.prog 7 #[.agg (f.c iv ov)] wz fun e w' => ∃ a c, e = .returned (.tuple #[.slice a B.length c, .int .i64 E]) ∧ RdB w' (.slice a B.length c) B ∧ Below wz.heap.size wz w') ∧
    (∀ (iv ov : Value) (wz : World), RdI wz iv f.n f.F → RdS wz ov f.L → Calls Try.prog 8 #[.agg (f.c iv ov)] wz fun e w' => ∃ a c, e = .returned (.tuple #[.slice a B.length c, .int .i64 E]) ∧ RdB w' (.slice a B.length c) B ∧ Below wz.heap.size wz w') := by
  cases h0 : frOk f with
  | true =>
    refine ⟨frB f, 0, by have := (frOk_parts h0).2; omega, fun iv ov wz hi ho => (frEncode_ok f ff h0 iv ov wz hi ho).mono ?_, fun iv ov wz hi ho => (rEncodeF_ok f ff h0 iv ov wz hi ho).mono ?_⟩ <;>
    · rintro e w' ⟨sv, rfl, h1, h2⟩
      obtain ⟨a, c, rfl⟩ := h1.rd.slice
      exact ⟨a, c, rfl, h1.rd, h2⟩
  | false =>
    refine ⟨[], 8, by simp, fun iv ov wz hi ho => (frEncode_bad f ff h0 iv ov wz hi ho).mono ?_, fun iv ov wz hi ho => (rEncodeF_bad f ff h0 iv ov wz hi ho).mono ?_⟩ <;>
    · rintro e w' ⟨rfl, h2⟩
      exact ⟨none, 0, rfl, .inl ⟨none, 0, rfl, fun _ => rfl, rfl⟩, h2⟩
theorem same_trueW (va vb : Value) (a : List Int) (w : World) (hm : a.length ≤ 140737488355328) (h1 : RdB w va a) (h2 : RdB w vb a) :
    Calls Try.prog 13 #[va, vb] w fun e w' => e = .returned (.bool true) ∧ Below w.heap.size w w' := by
  have h := same_any va vb a a w hm h1 h2
  rw [sameF_self] at h
  exact h.mono fun e w' ⟨he, hd⟩ => ⟨he, hd.below (Below.refl _ _)⟩
set_option maxHeartbeats 16000000 in
set_option maxRecDepth 100000 in
theorem writes_out (f : Fr) (rf : f.Raw) (iv ov : Value) (n : Nat) (F : List Int) (hF : Bytes F) (lv : Value) (k : Int) (w : World) (hi : RdI w iv f.n f.F) (ho : RdS w ov f.L) (hl : RdI w lv n F) (h : ¬ f.Small ∨ (f.Small ∧ 100 < n)) :
    Calls Try.prog 3 #[.agg (f.c iv ov), lv, .int .u8 k] w fun e w' => e = .returned (.bool true) ∧ Below w.heap.size w w' := by
  obtain ⟨ia, ic, rfl⟩ := hi.slice
  obtain ⟨oa, oc, rfl⟩ := ho.slice
  obtain ⟨la, lc, rfl⟩ := hl.slice
  obtain ⟨W, hW⟩ : ∃ W, W = w.alloc (.cells (f.c (.slice ia f.n ic) (.slice oa f.L.length oc)) 26) := ⟨_, rfl⟩
  have hS0 := Lib.hid (show Below w.heap.size w W by rw [hW]; exact (Below.refl w.heap.size w).alloc (Nat.le_refl _) _)
  have r0 := Lib.hid (show W.heap[w.heap.size]? = some (.cells (f.c (.slice ia f.n ic) (.slice oa f.L.length oc)) 26 (0, 0)) by rw [hW]; exact heap_alloc_new w _)
  have xi := Lib.hid (hi.mono hS0.out)
  have xo := Lib.hid (ho.mono hS0.out)
  have xl := Lib.hid (hl.mono hS0.out)
  rcases h with h | ⟨h, hn⟩
  · have gF := Lib.hid (fun (wz : World) h1 h2 => great_any f true (fun x => absurd x h) (fun _ => rfl) (.slice ia f.n ic) (.slice oa f.L.length oc) wz h1 h2)
    clear hi ho hl h rf
    go_enter Try.func3, Try.ntmps3
    go_upto_region 1 with fail
    rw [← hW]
    clear hW
    go_wp2_with (first | (refine wpList_load_row_g rfl 26 _ rfl w.heap.size rfl 26 (f.c (.slice ia f.n ic) (.slice oa f.L.length oc)) (0, 0) _ r0.out Try.underlying26 rfl info_frame ?_) | (go_at_call 5; (with_reducible refine (gF.out _ xi.out xo.out).mono ?_); rintro e9 w4 ⟨rfl, q2⟩; (try replace r0 := Lib.hid (rowB r0.out q2 (Array.getElem?_eq_some_iff.1 r0.out).1)); (try replace xi := Lib.hid (xi.out.mono q2)); (try replace xo := Lib.hid (xo.out.mono q2)); (try replace xl := Lib.hid (xl.out.mono q2)); replace hS0 := Lib.hid (hS0.out.trans (Below.mono q2 hS0.out.size)); clear q2))
    go_ret
    exact ⟨rfl, hS0.out⟩
  · have gF := Lib.hid (fun (wz : World) h1 h2 => great_any f false (fun _ => rfl) (fun x => absurd h x) (.slice ia f.n ic) (.slice oa f.L.length oc) wz h1 h2)
    have hnI : (100 : Int) < (n : Int) := by omega
    clear hi ho hl h rf hn
    go_enter Try.func3, Try.ntmps3
    go_upto_region 1 with fail
    rw [← hW]
    clear hW
    go_wp2_with (first | (refine wpList_load_row_g rfl 26 _ rfl w.heap.size rfl 26 (f.c (.slice ia f.n ic) (.slice oa f.L.length oc)) (0, 0) _ r0.out Try.underlying26 rfl info_frame ?_) | (go_at_call 5; (with_reducible refine (gF.out _ xi.out xo.out).mono ?_); rintro e9 w4 ⟨rfl, q2⟩; (try replace r0 := Lib.hid (rowB r0.out q2 (Array.getElem?_eq_some_iff.1 r0.out).1)); (try replace xi := Lib.hid (xi.out.mono q2)); (try replace xo := Lib.hid (xo.out.mono q2)); (try replace xl := Lib.hid (xl.out.mono q2)); replace hS0 := Lib.hid (hS0.out.trans (Below.mono q2 hS0.out.size)); clear q2))
    go_ret
    exact ⟨rfl, hS0.out⟩
set_option maxHeartbeats 16000000 in
set_option maxRecDepth 100000 in
theorem writes_in (f : Fr) (rf : f.Raw) (iv ov : Value) (n : Nat) (F : List Int) (hF : Bytes F) (lv : Value) (k : Int) (w : World) (hi : RdI w iv f.n f.F) (ho : RdS w ov f.L) (hl : RdI w lv n F) (sm : f.Small) (hn : n ≤ 100) :
    Calls Try.prog 3 #[.agg (f.c iv ov), lv, .int .u8 k] w fun e w' => e = .returned (.bool true) ∧ Below w.heap.size w w' := by
  have ff := small_fit rf.k rf.N rf.F rf.L hi.len sm
  obtain ⟨B, E, hBl, hE1, hE2⟩ := enc_both f ff
  obtain ⟨ia, ic, rfl⟩ := hi.slice
  obtain ⟨oa, oc, rfl⟩ := ho.slice
  obtain ⟨la, lc, rfl⟩ := hl.slice
  obtain ⟨W, hW⟩ : ∃ W, W = w.alloc (.cells (f.c (.slice ia f.n ic) (.slice oa f.L.length oc)) 26) := ⟨_, rfl⟩
  have hS0 := Lib.hid (show Below w.heap.size w W by rw [hW]; exact (Below.refl w.heap.size w).alloc (Nat.le_refl _) _)
  have r0 := Lib.hid (show W.heap[w.heap.size]? = some (.cells (f.c (.slice ia f.n ic) (.slice oa f.L.length oc)) 26 (0, 0)) by rw [hW]; exact heap_alloc_new w _)
  have xi := Lib.hid (hi.mono hS0.out)
  have xo := Lib.hid (ho.mono hS0.out)
  have xl := Lib.hid (hl.mono hS0.out)
  have gF := Lib.hid (fun (wz : World) h1 h2 => great_any f false (fun _ => rfl) (fun x => absurd sm x) (.slice ia f.n ic) (.slice oa f.L.length oc) wz h1 h2)
  have f1 := Lib.hid (fun (wz : World) h1 h2 => twin_any f sm (.slice ia f.n ic) (.slice oa f.L.length oc) wz h1 h2)
  have f2 := Lib.hid hE1
  have f3 := Lib.hid hE2
  have f4 := Lib.hid (fun (wz : World) (h : RdI wz (.slice la n lc) n F) => (split_any k n (by omega) F hF (.slice la n lc) wz h).mono fun e w' h => split_fs h)
  have f5 := Lib.hid (fun (wz : World) (h : RdI wz (.slice la n lc) n F) => (rSplit_any k n (by omega) F hF (.slice la n lc) wz h).mono fun e w' h => split_fs h)
  have f6 := Lib.hid (fun (wz : World) (a b : Value) h1 h2 => frCheck_any f ff a b wz h1 h2)
  have f7 := Lib.hid (fun (wz : World) (a b : Value) h1 h2 => rCheckF_any f ff a b wz h1 h2)
  have f8 := Lib.hid (fun (wz : World) (va vb : Value) (h1 : RdB wz va B) (h2 : RdB wz vb B) => same_trueW va vb B wz (by omega) h1 h2)
  have f9 := Lib.hid (fun (wz : World) (a b c d : Value) (h1 : RdI wz a f.n f.F) (h2 : RdS wz b f.L) (h3 : RdI wz c f.n f.F) (h4 : RdS wz d f.L) => (show Calls Try.prog 14 #[.agg (f.c a b), .agg (f.c c d)] wz fun e w' => e = .returned (.bool true) ∧ Below wz.heap.size wz w' from by
    have h := sameFr_any f f ff.n ff.l ff.s a b c d wz h1 h2 h3 h4
    rw [sameFr_self] at h
    exact h))
  have f10 := Lib.hid (fun (wz : World) (i : Nat) (a c : Value) (h1 : RdI wz a (nthF (splL k n F) i).n (nthF (splL k n F) i).F) (h3 : RdI wz c (nthF (splL k n F) i).n (nthF (splL k n F) i).F) => (show Calls Try.prog 14 #[.agg ((nthF (splL k n F) i).c a (.slice none 0 0)), .agg ((nthF (splL k n F) i).c c (.slice none 0 0))] wz fun e w' => e = .returned (.bool true) ∧ Below wz.heap.size wz w' from by
    obtain ⟨g1, g2, _⟩ := spl_small k n F i
    have hL : ∀ wz : World, RdS wz (.slice none 0 0) (nthF (splL k n F) i).L := fun wz => by rw [g2]; exact RdS.nil wz
    have h := sameFr_any (nthF (splL k n F) i) (nthF (splL k n F) i) g1 (by rw [g2]; simp) (fun j => by rw [g2]; simp [nthL]) a (.slice none 0 0) c (.slice none 0 0) wz h1 (hL wz) h3 (hL wz)
    rw [sameFr_self] at h
    exact h))
  have hS2 := (spl_small k n F 0).2.2
  obtain ⟨m, hm⟩ : ∃ m, (splL k n F).length = m := ⟨_, rfl⟩
  rw [hm] at f4 f5 hS2
  have hm := Lib.hid hm
  generalize splL k n F = S at *
  generalize splE k n F = SE at *
  obtain ⟨NB, hNB⟩ : ∃ N, B.length = N := ⟨_, rfl⟩
  rw [hNB] at f2 f3
  have hNB := Lib.hid hNB
  have hS2 := Lib.hid hS2
  generalize chkR f = CK at *
  have t1 : (CK != CK) = false := by simp
  have t2 : (E != E) = false := by simp
  have t3 : (SE != SE) = false := by simp
  have t4 : ((m : Int) != (m : Int)) = false := by simp
  have hnI : ¬ (100 : Int) < (n : Int) := by omega
  have hnD : decide ((100 : Int) < (n : Int)) = false := by simp; omega
  have hnN : decide (100 < n) = false := by simp; omega
  clear hi ho hl rf sm hn ff hBl hE1 hE2 hF
  go_enter Try.func3, Try.ntmps3
  go_upto_region 1 with fail
  rw [← hW]
  clear hW
  go_upto_region 3 with (first
    | (refine wpList_load_row_g rfl 26 _ rfl w.heap.size rfl 26 (f.c (.slice ia f.n ic) (.slice oa f.L.length oc)) (0, 0) _ r0.out Try.underlying26 rfl info_frame ?_)
    | (go_at_call 5; (with_reducible refine (gF.out _ xi.out xo.out).mono ?_); rintro e9 w4 ⟨rfl, q2⟩; (try replace r0 := Lib.hid (rowB r0.out q2 (Array.getElem?_eq_some_iff.1 r0.out).1)); (try replace xi := Lib.hid (xi.out.mono q2)); (try replace xo := Lib.hid (xo.out.mono q2)); (try replace xl := Lib.hid (xl.out.mono q2)); replace hS0 := Lib.hid (hS0.out.trans (Below.mono q2 hS0.out.size)); clear q2))
  go_upto_region 4 with (first
    | (refine wpList_load_row_g rfl 26 _ rfl w.heap.size rfl 26 (f.c (.slice ia f.n ic) (.slice oa f.L.length oc)) (0, 0) _ r0.out Try.underlying26 rfl info_frame ?_)
    | (go_at_call 6; (with_reducible refine (f1.out _ xi.out xo.out).mono ?_); rintro e9 w4 ⟨qa, qc, pa, pc, rfl, q1, q3, q2⟩; (try replace r0 := Lib.hid (rowB r0.out q2 (Array.getElem?_eq_some_iff.1 r0.out).1)); (try replace xi := Lib.hid (xi.out.mono q2)); (try replace xo := Lib.hid (xo.out.mono q2)); (try replace xl := Lib.hid (xl.out.mono q2)); replace hS0 := Lib.hid (hS0.out.trans (Below.mono q2 hS0.out.size)); have xq := Lib.hid q1; have xp := Lib.hid q3; clear q1 q3; clear q2))
  obtain ⟨W5, hW5⟩ : ∃ W5, W5 = w4.alloc (.cells #[.int .u8 f.k, .int .u64 (f.N : Int), .slice qa f.n qc, .slice pa f.L.length pc] 26) := ⟨_, rfl⟩
  rw [← hW5]
  have hb5 := Lib.hid (show Below w4.heap.size w4 W5 by rw [hW5]; exact (Below.refl _ _).alloc (Nat.le_refl _) _)
  have r7 := Lib.hid (show W5.heap[w4.heap.size]? = some (.cells (f.c (.slice qa f.n qc) (.slice pa f.L.length pc)) 26 (0, 0)) by rw [hW5]; exact heap_alloc_new w4 _)
  (try replace r0 := Lib.hid (rowB r0.out hb5.out (Array.getElem?_eq_some_iff.1 r0.out).1)); (try replace xi := Lib.hid (xi.out.mono hb5.out)); (try replace xo := Lib.hid (xo.out.mono hb5.out)); (try replace xl := Lib.hid (xl.out.mono hb5.out)); (try replace xq := Lib.hid (xq.out.mono hb5.out)); (try replace xp := Lib.hid (xp.out.mono hb5.out)); replace hS0 := Lib.hid (hS0.out.trans (Below.mono hb5.out hS0.out.size))
  clear hb5 hW5
  go_upto_region 5 with (first
    | (refine wpList_load_row_g rfl 26 _ rfl _ rfl 26 (f.c (.slice qa f.n qc) (.slice pa f.L.length pc)) (0, 0) _ r7.out Try.underlying26 rfl info_frame ?_)
    | (go_at_call 7; (with_reducible refine (f2.out _ _ _ xq.out xp.out).mono ?_); rintro e9 w4 ⟨ea, ec, rfl, q1, q2⟩; (try replace r0 := Lib.hid (rowB r0.out q2 (Array.getElem?_eq_some_iff.1 r0.out).1)); (try replace r7 := Lib.hid (rowB r7.out q2 (Array.getElem?_eq_some_iff.1 r7.out).1)); (try replace xi := Lib.hid (xi.out.mono q2)); (try replace xo := Lib.hid (xo.out.mono q2)); (try replace xl := Lib.hid (xl.out.mono q2)); (try replace xq := Lib.hid (xq.out.mono q2)); (try replace xp := Lib.hid (xp.out.mono q2)); replace hS0 := Lib.hid (hS0.out.trans (Below.mono q2 hS0.out.size)); have xA := Lib.hid q1; clear q1; clear q2))
  go_upto_region 6 with (first
    | (refine wpList_load_row_g rfl 26 _ rfl w.heap.size rfl 26 (f.c (.slice ia f.n ic) (.slice oa f.L.length oc)) (0, 0) _ r0.out Try.underlying26 rfl info_frame ?_)
    | (go_at_call 8; (with_reducible refine (f3.out _ _ _ xi.out xo.out).mono ?_); rintro e9 w4 ⟨da, dc, rfl, q1, q2⟩; (try replace r0 := Lib.hid (rowB r0.out q2 (Array.getElem?_eq_some_iff.1 r0.out).1)); (try replace r7 := Lib.hid (rowB r7.out q2 (Array.getElem?_eq_some_iff.1 r7.out).1)); (try replace xi := Lib.hid (xi.out.mono q2)); (try replace xo := Lib.hid (xo.out.mono q2)); (try replace xl := Lib.hid (xl.out.mono q2)); (try replace xq := Lib.hid (xq.out.mono q2)); (try replace xp := Lib.hid (xp.out.mono q2)); (try replace xA := Lib.hid (xA.out.mono q2)); replace hS0 := Lib.hid (hS0.out.trans (Below.mono q2 hS0.out.size)); have xB := Lib.hid q1; clear q1; clear q2))
  go_upto_region 7 with (go_at_call 9; (with_reducible refine (f4.out _ xl.out).mono ?_); rintro e9 w4 ⟨sa, sc, rfl, q1, q2⟩; (try replace r0 := Lib.hid (rowB r0.out q2 (Array.getElem?_eq_some_iff.1 r0.out).1)); (try replace r7 := Lib.hid (rowB r7.out q2 (Array.getElem?_eq_some_iff.1 r7.out).1)); (try replace xi := Lib.hid (xi.out.mono q2)); (try replace xo := Lib.hid (xo.out.mono q2)); (try replace xl := Lib.hid (xl.out.mono q2)); (try replace xq := Lib.hid (xq.out.mono q2)); (try replace xp := Lib.hid (xp.out.mono q2)); (try replace xA := Lib.hid (xA.out.mono q2)); (try replace xB := Lib.hid (xB.out.mono q2)); replace hS0 := Lib.hid (hS0.out.trans (Below.mono q2 hS0.out.size)); have xC := Lib.hid q1; clear q1; clear q2)
  go_upto_region 8 with (go_at_call 10; (with_reducible refine (f5.out _ xl.out).mono ?_); rintro e9 w4 ⟨ta, tc, rfl, q1, q2⟩; (try replace r0 := Lib.hid (rowB r0.out q2 (Array.getElem?_eq_some_iff.1 r0.out).1)); (try replace r7 := Lib.hid (rowB r7.out q2 (Array.getElem?_eq_some_iff.1 r7.out).1)); (try replace xi := Lib.hid (xi.out.mono q2)); (try replace xo := Lib.hid (xo.out.mono q2)); (try replace xl := Lib.hid (xl.out.mono q2)); (try replace xq := Lib.hid (xq.out.mono q2)); (try replace xp := Lib.hid (xp.out.mono q2)); (try replace xA := Lib.hid (xA.out.mono q2)); (try replace xB := Lib.hid (xB.out.mono q2)); (try replace xC := Lib.hid (xC.out.mono q2)); replace hS0 := Lib.hid (hS0.out.trans (Below.mono q2 hS0.out.size)); have xD := Lib.hid q1; clear q1; clear q2)
  have gl0 := Lib.hid (Array.getElem?_eq_some_iff.1 r0.out).1
  have gl7 := Lib.hid (Array.getElem?_eq_some_iff.1 r7.out).1
  skip
  refine wp_region_quiet (C := fun w' => Below w4.heap.size w4 w') (by kernel_rfl) (by kernel_rfl) ((Below.refl _ _).drew) ?_
  simp only []
  refine wpq (.agg (f.c (.slice qa f.n qc) (.slice pa f.L.length pc))) rfl (quiet_row 26 _ rfl _ rfl 26 (f.c (.slice qa f.n qc) (.slice pa f.L.length pc)) (0, 0) _ (fun w9 h9 => rowB r7.out h9 gl7.out) Try.underlying26 rfl info_frame) rfl (fun K hK => ?_); go_simp; refine hK _ ?_; clear hK K
  refine wpq (.int .i64 CK) rfl (qa_call1 (.agg (f.c (.slice qa f.n qc) (.slice pa f.L.length pc))) rfl Try.func11 (by kernel_rfl) rfl rfl rfl (fun w9 h9 => (f6.out w9 _ _ (xq.out.mono h9) (xp.out.mono h9)).mono fun e w' ⟨he, hb⟩ => ⟨he, h9.trans (hb.mono h9.size)⟩)) rfl (fun K hK => ?_); go_simp; refine hK _ ?_; clear hK K
  refine wpq (.agg (f.c (.slice ia f.n ic) (.slice oa f.L.length oc))) rfl (quiet_row 26 _ rfl w.heap.size rfl 26 (f.c (.slice ia f.n ic) (.slice oa f.L.length oc)) (0, 0) _ (fun w9 h9 => rowB r0.out h9 gl0.out) Try.underlying26 rfl info_frame) rfl (fun K hK => ?_); go_simp; refine hK _ ?_; clear hK K
  refine wpq (.int .i64 CK) rfl (qa_call1 (.agg (f.c (.slice ia f.n ic) (.slice oa f.L.length oc))) rfl Try.func12 (by kernel_rfl) rfl rfl rfl (fun w9 h9 => (f7.out w9 _ _ (xi.out.mono h9) (xo.out.mono h9)).mono fun e w' ⟨he, hb⟩ => ⟨he, h9.trans (hb.mono h9.size)⟩)) rfl (fun K hK => ?_); go_simp; refine hK _ ?_; clear hK K
  iterate 4 (go_big_quiet_want; go_big_quiet_op; first | go_big_quiet_on | (refine ⟨_, fun _ _ => rfl, ?_⟩; go_big_quiet_on))
  refine wpq (.bool true) rfl (quiet_call2 rfl Try.func13 (by kernel_rfl) rfl (.slice ea NB ec) (.slice da NB dc) (.bool true) rfl rfl rfl (fun w9 h9 => (f8.out w9 _ _ (xA.out.mono h9) (xB.out.mono h9)).mono fun e w' ⟨he, hb⟩ => ⟨he, h9.trans (hb.mono h9.size)⟩)) rfl (fun K hK => ?_); go_simp; refine hK _ ?_; clear hK K
  iterate 20 (go_big_quiet_want; go_big_quiet_op; first | go_big_quiet_on | (refine ⟨_, fun _ _ => rfl, ?_⟩; go_big_quiet_on))
  refine wpq (.agg (f.c (.slice qa f.n qc) (.slice pa f.L.length pc))) rfl (quiet_row 26 _ rfl _ rfl 26 (f.c (.slice qa f.n qc) (.slice pa f.L.length pc)) (0, 0) _ (fun w9 h9 => rowB r7.out h9 gl7.out) Try.underlying26 rfl info_frame) rfl (fun K hK => ?_); go_simp; refine hK _ ?_; clear hK K
  refine wpq (.agg (f.c (.slice ia f.n ic) (.slice oa f.L.length oc))) rfl (quiet_row 26 _ rfl w.heap.size rfl 26 (f.c (.slice ia f.n ic) (.slice oa f.L.length oc)) (0, 0) _ (fun w9 h9 => rowB r0.out h9 gl0.out) Try.underlying26 rfl info_frame) rfl (fun K hK => ?_); go_simp; refine hK _ ?_; clear hK K
  refine wpq (.bool true) rfl (quiet_call2 rfl Try.func14 (by kernel_rfl) rfl (.agg (f.c (.slice qa f.n qc) (.slice pa f.L.length pc))) (.agg (f.c (.slice ia f.n ic) (.slice oa f.L.length oc))) (.bool true) rfl rfl rfl (fun w9 h9 => (f9.out w9 _ _ _ _ (xq.out.mono h9) (xp.out.mono h9) (xi.out.mono h9) (xo.out.mono h9)).mono fun e w' ⟨he, hb⟩ => ⟨he, h9.trans (hb.mono h9.size)⟩)) rfl (fun K hK => ?_); go_simp; refine hK _ ?_; clear hK K
  iterate 2 (go_big_quiet_want; go_big_quiet_op; first | go_big_quiet_on | (refine ⟨_, fun _ _ => rfl, ?_⟩; go_big_quiet_on))
  refine wpQuiet_nil ?_
  intro w9 h9
  have xC9 := Lib.hid (xC.out.mono h9)
  have xD9 := Lib.hid (xD.out.mono h9)
  have hS9 := Lib.hid (hS0.out.trans (h9.mono hS0.out.size))
  clear h9 xC xD xA xB xq xp xi xo xl r0 r7 gl0 gl7 hS0 f1 f2 f3 f4 f5 f6 f7 f8 f9 gF
  go_wp2
  go_loopw [16] (fun i wr => ∃ j : Nat, j ≤ m ∧ i = .int .i64 (j : Int) ∧ Below w9.heap.size w9 wr) (fun i _ => m - (intOf i).toNat)
  case atStart => exact ⟨0, Nat.zero_le _, rfl, Below.refl _ _⟩
  case round =>
    obtain ⟨j, hj, rfl, hb0⟩ := hrel
    have hbr := Lib.hid hb0
    clear hb0
    by_cases hlt : j < m
    · have hjl := Lib.hid hlt
      have hjI : (j : Int) < (m : Int) := by omega
      obtain ⟨g1, c1, e1, l1, k1⟩ : ∃ g c, (Value.slice sa m sc) = .slice (some ⟨g, 0, none⟩) m c ∧ g < wr.heap.size ∧ ∃ xa xc, wr.rangeAt g (j * 4) ((nthF S j).c (.slice xa (nthF S j).n xc) (.slice none 0 0)).toList ∧ RdI wr (.slice xa (nthF S j).n xc) (nthF S j).n (nthF S j).F := by
        rcases xC9.out.mono hbr.out with ⟨h1, _⟩ | ⟨g, c, h1, h2, h3⟩
        · have := hm.out; rw [h1] at this; simp at this; omega
        · exact ⟨g, c, by rw [h1, hm.out], h2, h3 j (by rw [hm.out]; exact hjl.out)⟩
      obtain ⟨g2, c2, e2, l2, k2⟩ : ∃ g c, (Value.slice ta m tc) = .slice (some ⟨g, 0, none⟩) m c ∧ g < wr.heap.size ∧ ∃ xa xc, wr.rangeAt g (j * 4) ((nthF S j).c (.slice xa (nthF S j).n xc) (.slice none 0 0)).toList ∧ RdI wr (.slice xa (nthF S j).n xc) (nthF S j).n (nthF S j).F := by
        rcases xD9.out.mono hbr.out with ⟨h1, _⟩ | ⟨g, c, h1, h2, h3⟩
        · have := hm.out; rw [h1] at this; simp at this; omega
        · exact ⟨g, c, by rw [h1, hm.out], h2, h3 j (by rw [hm.out]; exact hjl.out)⟩
      cases e1
      cases e2
      obtain ⟨xa, xc, m1, i1⟩ := k1
      obtain ⟨ya, yc, m2, i2⟩ := k2
      have m1 := Lib.hid m1; have m2 := Lib.hid m2; have i1 := Lib.hid i1; have i2 := Lib.hid i2; have l1 := Lib.hid l1; have l2 := Lib.hid l2
      have hsm := Lib.hid (fun (wz : World) (a c : Value) h1 h3 => f10.out wz j a c h1 h3)
      generalize nthF S j = fj at *
      go_upto_region 13 with fail
      refine wp_region_quiet (C := fun w' => Below wr.heap.size wr w') (by kernel_rfl) (by kernel_rfl) ((Below.refl _ _).drew) ?_
      simp only []
      iterate 3 (go_big_quiet_want; go_big_quiet_op; first | go_big_quiet_on | (refine ⟨_, fun _ _ => rfl, ?_⟩; go_big_quiet_on))
      refine wpq (.agg (fj.c (.slice xa fj.n xc) (.slice none 0 0))) rfl (qa_load_midW 26 _ rfl g1 (j * 4) rfl (fj.c (.slice xa fj.n xc) (.slice none 0 0)).toList _ Try.underlying26 rfl (by kernel_rfl) (fun w9 h9 => range_belowW m1.out l1.out h9)) rfl (fun K hK => ?_); go_simp; refine hK _ ?_; clear hK K
      iterate 3 (go_big_quiet_want; go_big_quiet_op; first | go_big_quiet_on | (refine ⟨_, fun _ _ => rfl, ?_⟩; go_big_quiet_on))
      refine wpq (.agg (fj.c (.slice ya fj.n yc) (.slice none 0 0))) rfl (qa_load_midW 26 _ rfl g2 (j * 4) rfl (fj.c (.slice ya fj.n yc) (.slice none 0 0)).toList _ Try.underlying26 rfl (by kernel_rfl) (fun w9 h9 => range_belowW m2.out l2.out h9)) rfl (fun K hK => ?_); go_simp; refine hK _ ?_; clear hK K
      refine wpq (.bool true) rfl (quiet_call2 rfl Try.func14 (by kernel_rfl) rfl (.agg (fj.c (.slice xa fj.n xc) (.slice none 0 0))) (.agg (fj.c (.slice ya fj.n yc) (.slice none 0 0))) (.bool true) rfl rfl rfl (fun w9 h9 => (hsm.out w9 _ _ (i1.out.mono h9) (i2.out.mono h9)).mono fun e w' ⟨he, hb⟩ => ⟨he, h9.trans (hb.mono h9.size)⟩)) rfl (fun K hK => ?_); go_simp; refine hK _ ?_; clear hK K
      iterate 1 (go_big_quiet_want; go_big_quiet_op; first | go_big_quiet_on | (refine ⟨_, fun _ _ => rfl, ?_⟩; go_big_quiet_on))
      refine wpQuiet_nil ?_
      intro w8 h8
      have hb8 := Lib.hid (hbr.out.trans (h8.mono hbr.out.size))
      clear h8
      have hw1 : IntKind.i64.wrap ((j : Int) + 1) = ((j + 1 : Nat) : Int) := by rw [IntWalk.i64_in _ (by have := hjl.out; have := hS2.out; omega)]; omega
      go_wp2
      go_roundw
      case rel => exact ⟨j + 1, by have := hjl.out; omega, by go_num, hb8.out⟩
      case measure => simp [intOf]; have := hjl.out; omega
    · obtain rfl : j = m := by omega
      have hE := Lib.hid (hS9.out.trans (hbr.out.mono hS9.out.size))
      clear hlt
      go_wp2
      go_ret
      exact ⟨rfl, hE.out⟩
theorem writes_f (f : Fr) (rf : f.Raw) (iv ov : Value) (n : Nat) (F : List Int) (hF : Bytes F) (lv : Value) (k : Int) (w : World) (hi : RdI w iv f.n f.F) (ho : RdS w ov f.L) (hl : RdI w lv n F) :
    Calls Try.prog 3 #[.agg (f.c iv ov), lv, .int .u8 k] w fun e w' => e = .returned (.bool true) ∧ Below w.heap.size w w' := by
  by_cases sm : f.Small
  · by_cases hn : n ≤ 100
    · exact writes_in f rf iv ov n F hF lv k w hi ho hl sm hn
    · exact writes_out f rf iv ov n F hF lv k w hi ho hl (.inr ⟨sm, by omega⟩)
  · exact writes_out f rf iv ov n F hF lv k w hi ho hl (.inl sm)
end Go.Proofs.Ytfaojjleapenaab

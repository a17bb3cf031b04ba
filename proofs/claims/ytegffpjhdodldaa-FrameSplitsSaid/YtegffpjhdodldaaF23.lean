/- Layer 7: FrameSplits' walk. -/
import Derived.Test.YtegffpjhdodldaaF20
import Derived.Deep.MidRow
namespace Go.Proofs.Ytegffpjhdodldaa
open Go.RowKit Go.Ytegffpjhdodldaa
set_option linter.unusedVariables false
theorem wpList_load_mid_g {P : Program} {ops : Array Oper} {rest : List Oper} {o : Oper} {a : Act} {w : World} {Q : Exit → Act → World → Prop} (hw : Region.wanted o (yielded ops a.tmps) = true) (ty : TypeId) (x : Operand) (ho : o.op = .load ty x)
    (b k : Nat) (hx : a.eval x = .pointer (some ⟨b, k, none⟩)) (cs : Array Value) (d : TypeDesc) (hc : w.rangeAt b k cs.toList)
    (hu : P.underlying ty = some d) (hd : d.isRow = true) (hi : (P.info? ty).map (·.size) = some cs.toList.length)
    (h : wpList P ops Q rest (a.put o.dst (.agg cs)) w) : wpList P ops Q (o :: rest) a w :=
  wpList_step fun K hK => by rw [if_pos hw]; exact wp_load_mid ty x ho b k hx cs.toList d hc hu hd hi (hK _ _ (by simpa using h))
theorem range_below {w w' : World} {b o : Nat} {cs : List Value} (hr : w.rangeAt b o cs) (hb : b < w.heap.size) (h : Below w.heap.size w w') : w'.rangeAt b o cs :=
  fun j v hv => (h.cell (p := (⟨b, o + j, none⟩ : Addr)) hb).trans (hr j v hv)
theorem range_app {w : World} {b o : Nat} {xs ys : List Value} (h : w.rangeAt b o (xs ++ ys)) : w.rangeAt b o xs ∧ w.rangeAt b (o + xs.length) ys :=
  ⟨fun j v hv => h j v (by rw [List.getElem?_append_left (List.getElem?_eq_some_iff.1 hv).1]; exact hv), fun j v hv => by
    rw [Nat.add_assoc]; exact h _ v (by rw [List.getElem?_append_right (Nat.le_add_right _ _), Nat.add_sub_cancel_left]; exact hv)⟩
theorem owns_range {w : World} {B z : Nat} {E : TypeId} {v : Value} {m : Nat} {xs : List Value} (h : w.ownsRow B E z v m xs) (hm : m ≠ 0) : ∃ g c, v = .slice (some ⟨g, 0, none⟩) m c ∧ g < w.heap.size ∧ w.rangeAt g 0 xs := by
  rcases h.2 with ⟨_, h0⟩ | ⟨g, cap, cur, rfl, hbg, hgr, hcn, hcm, hcs, hct⟩
  · exact absurd h0 hm
  · refine ⟨g, cap, rfl, (Array.getElem?_eq_some_iff.1 hgr).1, fun j v hv => ?_⟩
    rw [Nat.zero_add, cell_of_row _ _ _ _ _ _ hgr]
    rw [← hct, List.getElem?_take] at hv
    split at hv
    · rw [← Array.getElem?_toList]; exact hv
    · cases hv
theorem rise_at {F : List Int} {n : Nat} (h : riseF F n = true) (i : Nat) (hi : i + 1 < n) : cmpF (idF F i) (idF F (i + 1)) < 0 := by
  by_cases h2 : cmpF (idF F i) (idF F (i + 1)) < 0
  · exact h2
  · rw [rise_no i hi h2] at h; cases h
theorem idF_take (F : List Int) (m i : Nat) (h : i < m) : idF (F.take (32 * m)) i = idF F i := by
  unfold idF
  rw [List.drop_take, List.take_take, Nat.min_eq_left (by omega)]
theorem idF_drop (F : List Int) (m i : Nat) : idF (F.drop (32 * m)) i = idF F (m + i) := by
  unfold idF
  rw [List.drop_drop, show 32 * m + 32 * i = 32 * (m + i) by omega]
theorem rise_take {F : List Int} {n : Nat} (h : riseF F n = true) (m : Nat) (hm : m ≤ n) : riseF (F.take (32 * m)) m = true :=
  rise_yes fun i hi => by rw [idF_take _ _ _ (by omega), idF_take _ _ _ hi]; exact rise_at h i (by omega)
theorem rise_drop {F : List Int} {n : Nat} (h : riseF F n = true) (m : Nat) : riseF (F.drop (32 * m)) (n - m) = true :=
  rise_yes fun i hi => by rw [idF_drop, idF_drop, ← Nat.add_assoc]; exact rise_at h _ (by omega)
theorem ids_fit {k : Int} (hk : 0 ≤ k ∧ k < 256) {n : Nat} {F : List Int} (hn : n ≤ 40) (hF : Bytes F) (hl : F.length = 32 * n) : (⟨k, 0, n, F, []⟩ : Fr).Fit :=
  ⟨hk, by show 0 < _; decide, by show n ≤ _; omega, hF, hl, Nat.zero_le _, fun i => by rw [num_nil]; exact bytes_nil, fun i => by rw [num_nil]; simp⟩
theorem ids_chk {k : Int} (hk : idsK k = true) {n : Nat} {F : List Int} (hn : n ≤ 40) (hl : F.length = 32 * n) (hr : riseF F n = true) : chkR (⟨k, 0, n, F, []⟩ : Fr) = 0 := by
  have h1 : numK k = false := by
    cases h : numK k
    · rfl
    · rw [kinds_apart h] at hk; cases hk
  refine chkR_ok ?_ ?_
  · rw [parts_ids (f := ⟨k, 0, n, F, []⟩) h1 hk]
    show (decide (0 = 0) && (decide ([].length = 0) && (decide (n ≤ 40) && riseF F n))) = true
    rw [decide_eq_true hn, hr]; rfl
  · unfold frB
    rw [if_neg (by rw [h1]; decide), if_pos hk]
    show ([k] ++ (numB n ++ F)).length ≤ 2000
    rw [List.length_append, List.length_append, List.length_singleton, numB_length, hl]
    have := numL_le n (by omega)
    omega
set_option maxHeartbeats 4000000 in
set_option maxRecDepth 100000 in
theorem splits_f (k : Int) (hk : 0 ≤ k ∧ k < 256) (n : Nat) (F : List Int) (hF : Bytes F) (v : Value) (w : World) (hr : RdI w v n F) :
    Calls Try.prog 6 #[v, .int .u8 k] w fun e w' => e = .returned (.bool true) ∧ Below w.heap.size w w' := by
  have hB := Lib.hid (Below.refl w.heap.size w)
  have hl := hr.len
  obtain ⟨a, c, rfl⟩ := hr.slice
  have hrw := Lib.hid (fun (wz : World) (h : Below w.heap.size w wz) => hr.mono h)
  by_cases h60 : n ≤ 60
  · have hS := split_any k n (by omega) F hF _ w hr
    have hL := Lib.hid (fun wz => listed_any k wz)
    have hRi := Lib.hid (fun (wz : World) (h : Below w.heap.size w wz) => rising_any F n _ wz (hrw.out wz h) hF (by omega))
    cases hd : idsK k
    · rw [hd] at hL
      have hSp := Lib.hid (hS.mono fun e w' h => (show e = .returned (.tuple #[.slice none 0 0, .int .i64 2]) ∧ Below w.heap.size w w' from by unfold splitPost at h; rw [if_neg (by rw [hd]; decide)] at h; exact ⟨h.2, h.1⟩))
      clear hr hS hk hl hF
      go_enter Try.func6, Try.ntmps6
      go_wp2_with (first | (go_at_call 13; (with_reducible refine (hSp.out).mono ?_); rintro e w4 ⟨rfl, q2⟩; replace hB := Lib.hid (hB.out.trans (Below.mono q2 hB.out.size)); clear q2) | (go_at_call 22; (with_reducible refine (hL.out _).mono ?_); rintro e w5 ⟨rfl, rfl⟩) | (go_at_call 23; (first | (with_reducible refine (hRi.out _ hB.out).mono ?_)); rintro e w4 ⟨rfl, q2⟩; replace hB := Lib.hid (hB.out.trans (Below.mono q2 hB.out.size)); clear q2) | (go_at_call 21; (first | (with_reducible refine (alive7 _).mono ?_)); rintro e w4 ⟨rfl, q2⟩; replace hB := Lib.hid (hB.out.trans (Below.mono q2 hB.out.size)); clear q2))
      go_ret
      exact ⟨rfl, hB.out⟩
    · rw [hd] at hL
      cases hri : riseF F n
      · rw [hri] at hRi
        have hSp := Lib.hid (hS.mono fun e w' h => (show e = .returned (.tuple #[.slice none 0 0, .int .i64 32]) ∧ Below w.heap.size w w' from by unfold splitPost at h; rw [if_pos hd, if_pos h60, if_neg (by rw [hri]; decide)] at h; exact ⟨h.2, h.1⟩))
        clear hr hS hk hl hF
        go_enter Try.func6, Try.ntmps6
        go_wp2_with (first | (go_at_call 13; (with_reducible refine (hSp.out).mono ?_); rintro e w4 ⟨rfl, q2⟩; replace hB := Lib.hid (hB.out.trans (Below.mono q2 hB.out.size)); clear q2) | (go_at_call 22; (with_reducible refine (hL.out _).mono ?_); rintro e w5 ⟨rfl, rfl⟩) | (go_at_call 23; (first | (with_reducible refine (hRi.out _ hB.out).mono ?_)); rintro e w4 ⟨rfl, q2⟩; replace hB := Lib.hid (hB.out.trans (Below.mono q2 hB.out.size)); clear q2) | (go_at_call 21; (first | (with_reducible refine (alive7 _).mono ?_)); rintro e w4 ⟨rfl, q2⟩; replace hB := Lib.hid (hB.out.trans (Below.mono q2 hB.out.size)); clear q2))
        go_ret
        exact ⟨rfl, hB.out⟩
      · by_cases h40 : n ≤ 40
        · have hSp := Lib.hid (hS.mono fun e w' h => (show ∃ g c xa xc, e = .returned (.tuple #[.slice (some ⟨g, 0, none⟩) 1 c, .int .i64 0]) ∧ g < w'.heap.size ∧ w'.rangeAt g 0 ((⟨k, 0, n, F, []⟩ : Fr).c (.slice xa n xc) (.slice none 0 0)).toList ∧ RdI w' (.slice xa n xc) n F ∧ Below w.heap.size w w' from by
            unfold splitPost at h; rw [if_pos hd, if_pos h60, if_pos hri] at h
            obtain ⟨hb, v, rfl, ⟨_, xa, xc, h2, h3⟩ | ⟨h1, _⟩⟩ := h
            · obtain ⟨g, c, rfl, h4, h5⟩ := owns_range h2 (by decide)
              exact ⟨g, c, xa, xc, rfl, h4, h5, h3.rd, hb⟩
            · omega))
          have hC := Lib.hid (fun (xa : Option Addr) (xc : Nat) (wz : World) (h : RdI wz (.slice xa n xc) n F) => rCheckF_any ⟨k, 0, n, F, []⟩ (ids_fit hk h40 hF hl) (.slice xa n xc) (.slice none 0 0) wz h (RdS.nil wz))
          rw [ids_chk hd h40 hl hri] at hC
          have hsm := Lib.hid (fun (va : Value) (wz : World) (h : RdI wz va n F) (h2 : Below w.heap.size w wz) => (sameIDs_any n n F F va _ wz (by omega) h (hrw.out wz h2)).mono fun e w' ⟨q1, q2⟩ => (show e = Ending.returned (.bool true) ∧ Below wz.heap.size wz w' from ⟨by rw [q1, sameF_self], q2.below (Below.refl _ _)⟩))
          clear hr hS hk hl hF hL hRi
          have hz : ((1 : Int) != max 1 (((n : Int) + 39) / 40)) = false := by rw [bne_eq_false_iff_eq]; omega
          go_enter Try.func6, Try.ntmps6
          go_upto_region 6 with (go_at_call 13; (with_reducible refine (hSp.out).mono ?_); rintro e w4 ⟨g, gc, xa, xc, rfl, q3, q4, q5, q2⟩; have hg := Lib.hid q3; have hx := Lib.hid q4; have hi := Lib.hid q5; clear q3 q4 q5; replace hB := Lib.hid q2; clear q2)
          go_upto_region 10 with fail
          have hkk : (k != k) = false := by simp
          have hx0 := hx
          have hi0 := hi
          go_loopw [7, 8] (fun al i wr => Below w4.heap.size w4 wr ∧ ((i = .int .i64 0 ∧ al = .slice none 0 0) ∨ (i = .int .i64 1 ∧ OwnI w4.heap.size 58 wr al n F))) (fun _ i _ => 2 - (intOf i).toNat)
          case atStart => exact ⟨Below.refl _ _, .inl ⟨rfl, rfl⟩⟩
          case round =>
            obtain ⟨hb, ⟨rfl, rfl⟩ | ⟨rfl, ho⟩⟩ := hrel
            · have ho := OwnI.nil wr w4.heap.size 58
              have hy0 := Lib.hid (range_below hx0.out hg.out hb)
              have e0 : wr.cell? ⟨g, 0, none⟩ = some (.int .u8 k) := hy0.out 0 _ rfl
              have hbb := Lib.hid hb
              have hoo := Lib.hid ho
              clear hb ho
              go_wp2_with (first | (refine wpList_load_mid_g rfl 26 _ rfl g 0 rfl ((⟨k, 0, n, F, []⟩ : Fr).c (.slice xa n xc) (.slice none 0 0)) _ hy0.out Try.underlying26 rfl (by kernel_rfl) ?_) | (go_at_call 16; (with_reducible refine (hC.out _ _ wr (hi0.out.mono hbb.out)).mono ?_); rintro e w5 ⟨rfl, q2⟩; have hb5 := Lib.hid (hbb.out.trans (Below.mono q2 hbb.out.size)); have ho5 := Lib.hid (hoo.out.kept q2); have e2 : w5.cell? ⟨g, 2, none⟩ = some (.slice xa n xc) := range_below hx0.out hg.out hb5.out 2 _ rfl; clear q2) | (refine appendIs rfl _ _ 23 rfl w4.heap.size 58 Try.underlying23 (by kernel_rfl) _ rfl 0 [] ho5.out _ rfl n F (hi0.out.mono hb5.out) (by omega) hb5.out.size ?_))
              intro v6 w6 h1 h2
              have hb6 := Lib.hid (hb5.out.trans (ho5.out.below h2 hb5.out.size))
              have ho6 := Lib.hid h1
              clear h1 h2
              refine Stop.go ?_
              go_wp2
              exact ⟨⟨hb6.out, .inr ⟨by go_num, ho6.out⟩⟩, by simp [intOf]⟩
            · have hbb := Lib.hid hb
              have hB9 := Lib.hid (hB.out.trans (hb.mono hB.out.size))
              obtain ⟨va, vc, rfl⟩ := ho.rd.slice
              have hoo := Lib.hid ho.rd
              clear hb ho
              go_wp2_with (first | (go_at_call 24; (with_reducible refine (hsm.out _ _ hoo.out hB9.out).mono ?_); rintro e w7 ⟨rfl, q2⟩; replace hB9 := Lib.hid (hB9.out.trans (Below.mono q2 hB9.out.size)); clear q2) | (go_at_call 21; (with_reducible refine (alive7 _).mono ?_); rintro e w8 ⟨rfl, q2⟩; replace hB9 := Lib.hid (hB9.out.trans (Below.mono q2 hB9.out.size)); clear q2))
              go_ret
              exact ⟨rfl, hB9.out⟩
        · have h41 : 40 < n := by omega
          have hl1 : (F.take (32 * 40)).length = 32 * 40 := by rw [List.length_take]; omega
          have hl2 : (F.drop (32 * 40)).length = 32 * (n - 40) := by rw [List.length_drop]; omega
          have hSp := Lib.hid (hS.mono fun e w' h => (show ∃ g c xa xc ya yc, e = .returned (.tuple #[.slice (some ⟨g, 0, none⟩) 2 c, .int .i64 0]) ∧ g < w'.heap.size ∧ w'.rangeAt g 0 ((⟨k, 0, 40, F.take (32 * 40), []⟩ : Fr).c (.slice xa 40 xc) (.slice none 0 0)).toList ∧ w'.rangeAt g 4 ((⟨k, 0, n - 40, F.drop (32 * 40), []⟩ : Fr).c (.slice ya (n - 40) yc) (.slice none 0 0)).toList ∧ RdI w' (.slice xa 40 xc) 40 (F.take (32 * 40)) ∧ RdI w' (.slice ya (n - 40) yc) (n - 40) (F.drop (32 * 40)) ∧ Below w.heap.size w w' from by
            unfold splitPost at h; rw [if_pos hd, if_pos h60, if_pos hri] at h
            obtain ⟨hb, v, rfl, ⟨h1, _⟩ | ⟨_, xa, xc, ya, yc, h2, h3, h4⟩⟩ := h
            · omega
            · obtain ⟨g, c, rfl, h5, h6⟩ := owns_range h2 (by decide)
              exact ⟨g, c, xa, xc, ya, yc, rfl, h5, (range_app h6).1, (range_app h6).2, h3.rd, h4.rd, hb⟩))
          have hC := Lib.hid (fun (xa : Option Addr) (xc : Nat) (wz : World) (h : RdI wz (.slice xa 40 xc) 40 (F.take (32 * 40))) => rCheckF_any ⟨k, 0, 40, F.take (32 * 40), []⟩ (ids_fit hk (by decide) (bytes_take _ _ hF) hl1) (.slice xa 40 xc) (.slice none 0 0) wz h (RdS.nil wz))
          rw [ids_chk hd (by decide) hl1 (rise_take hri 40 (by omega))] at hC
          have hD := Lib.hid (fun (xa : Option Addr) (xc : Nat) (wz : World) (h : RdI wz (.slice xa (n - 40) xc) (n - 40) (F.drop (32 * 40))) => rCheckF_any ⟨k, 0, n - 40, F.drop (32 * 40), []⟩ (ids_fit hk (by omega) (bytes_drop _ _ hF) hl2) (.slice xa (n - 40) xc) (.slice none 0 0) wz h (RdS.nil wz))
          rw [ids_chk hd (by omega) hl2 (rise_drop hri 40)] at hD
          have hsm := Lib.hid (fun (va : Value) (wz : World) (h : RdI wz va n F) (h2 : Below w.heap.size w wz) => (sameIDs_any n n F F va _ wz (by omega) h (hrw.out wz h2)).mono fun e w' ⟨q1, q2⟩ => (show e = Ending.returned (.bool true) ∧ Below wz.heap.size wz w' from ⟨by rw [q1, sameF_self], q2.below (Below.refl _ _)⟩))
          have hcat := Lib.hid (show F.take (32 * 40) ++ F.drop (32 * 40) = F from List.take_append_drop _ _)
          clear hr hS hk hl hF hL hRi hl1 hl2
          obtain ⟨D, hDn⟩ : ∃ D, n - 40 = D := ⟨_, rfl⟩
          have hDe : n = 40 + D := by omega
          rw [hDn] at hSp hD
          generalize F.take (32 * 40) = FA at *
          generalize F.drop (32 * 40) = FB at *
          clear hDn
          subst hDe
          have hz : ((2 : Int) != max 1 ((40 + (D : Int) + 39) / 40)) = false := by rw [bne_eq_false_iff_eq]; omega
          have hkk : (k != k) = false := by simp
          go_enter Try.func6, Try.ntmps6
          go_upto_region 6 with (go_at_call 13; (with_reducible refine (hSp.out).mono ?_); rintro e w4 ⟨g, gc, xa, xc, ya, yc, rfl, q3, q4, q6, q5, q7, q2⟩; have hg := Lib.hid q3; have hx0 := Lib.hid q4; have hx1 := Lib.hid q6; have hi0 := Lib.hid q5; have hi1 := Lib.hid q7; clear q3 q4 q5 q6 q7; replace hB := Lib.hid q2; clear q2)
          go_upto_region 10 with fail
          go_loopw [7, 8] (fun al i wr => Below w4.heap.size w4 wr ∧ ((i = .int .i64 0 ∧ al = .slice none 0 0) ∨ (i = .int .i64 1 ∧ OwnI w4.heap.size 58 wr al 40 FA) ∨ (i = .int .i64 2 ∧ OwnI w4.heap.size 58 wr al (40 + D) F))) (fun _ i _ => 3 - (intOf i).toNat)
          case atStart => exact ⟨Below.refl _ _, .inl ⟨rfl, rfl⟩⟩
          case round =>
            obtain ⟨hb, ⟨rfl, rfl⟩ | ⟨rfl, ho⟩ | ⟨rfl, ho⟩⟩ := hrel
            · have ho := OwnI.nil wr w4.heap.size 58
              have hy0 := Lib.hid (range_below hx0.out hg.out hb)
              have e0 : wr.cell? ⟨g, 0, none⟩ = some (.int .u8 k) := hy0.out 0 _ rfl
              have hbb := Lib.hid hb
              have hoo := Lib.hid ho
              clear hb ho
              go_wp2_with (first | (refine wpList_load_mid_g rfl 26 _ rfl g 0 rfl ((⟨k, 0, 40, FA, []⟩ : Fr).c (.slice xa 40 xc) (.slice none 0 0)) _ hy0.out Try.underlying26 rfl (by kernel_rfl) ?_) | (go_at_call 16; (with_reducible refine (hC.out _ _ wr (hi0.out.mono hbb.out)).mono ?_); rintro e w5 ⟨rfl, q2⟩; have hb5 := Lib.hid (hbb.out.trans (Below.mono q2 hbb.out.size)); have ho5 := Lib.hid (hoo.out.kept q2); have e2 : w5.cell? ⟨g, 2, none⟩ = some (.slice xa 40 xc) := range_below hx0.out hg.out hb5.out 2 _ rfl; clear q2) | (refine appendIs rfl _ _ 23 rfl w4.heap.size 58 Try.underlying23 (by kernel_rfl) _ rfl 0 [] ho5.out _ rfl 40 FA (hi0.out.mono hb5.out) (by omega) hb5.out.size ?_))
              intro v6 w6 h1 h2
              have hb6 := Lib.hid (hb5.out.trans (ho5.out.below h2 hb5.out.size))
              have ho6 := Lib.hid h1
              clear h1 h2
              refine Stop.go ?_
              go_wp2
              exact ⟨⟨hb6.out, .inr (.inl ⟨by go_num, ho6.out⟩)⟩, by simp [intOf]⟩
            · obtain ⟨sa, sc, rfl⟩ := ho.rd.slice
              have hy1 := Lib.hid (range_below hx1.out hg.out hb)
              have e0 : wr.cell? ⟨g, 4, none⟩ = some (.int .u8 k) := hy1.out 0 _ rfl
              have hbb := Lib.hid hb
              have hoo := Lib.hid ho
              clear hb ho
              go_wp2_with (first | (refine wpList_load_mid_g rfl 26 _ rfl g 4 rfl ((⟨k, 0, D, FB, []⟩ : Fr).c (.slice ya D yc) (.slice none 0 0)) _ hy1.out Try.underlying26 rfl (by kernel_rfl) ?_) | (go_at_call 16; (with_reducible refine (hD.out _ _ wr (hi1.out.mono hbb.out)).mono ?_); rintro e w5 ⟨rfl, q2⟩; have hb5 := Lib.hid (hbb.out.trans (Below.mono q2 hbb.out.size)); have ho5 := Lib.hid (hoo.out.kept q2); have e2 : w5.cell? ⟨g, 6, none⟩ = some (.slice ya D yc) := range_below hx1.out hg.out hb5.out 2 _ rfl; clear q2) | (refine appendIs rfl _ _ 23 rfl w4.heap.size 58 Try.underlying23 (by kernel_rfl) _ rfl 40 FA ho5.out _ rfl D FB (hi1.out.mono hb5.out) (by omega) hb5.out.size ?_))
              intro v6 w6 h1 h2
              have hb6 := Lib.hid (hb5.out.trans (ho5.out.below h2 hb5.out.size))
              have ho6 := Lib.hid h1
              clear h1 h2
              refine Stop.go ?_
              go_wp2
              exact ⟨⟨hb6.out, .inr (.inr ⟨by go_num, by have h := ho6.out; rw [hcat.out] at h; exact h⟩)⟩, by simp [intOf]⟩
            · have hbb := Lib.hid hb
              have hB9 := Lib.hid (hB.out.trans (hb.mono hB.out.size))
              obtain ⟨va, vc, rfl⟩ := ho.rd.slice
              have hoo := Lib.hid ho.rd
              clear hb ho
              go_wp2_with (first | (go_at_call 24; (with_reducible refine (hsm.out _ _ hoo.out hB9.out).mono ?_); rintro e w7 ⟨rfl, q2⟩; replace hB9 := Lib.hid (hB9.out.trans (Below.mono q2 hB9.out.size)); clear q2) | (go_at_call 21; (with_reducible refine (alive7 _).mono ?_); rintro e w8 ⟨rfl, q2⟩; replace hB9 := Lib.hid (hB9.out.trans (Below.mono q2 hB9.out.size)); clear q2))
              go_ret
              exact ⟨rfl, hB9.out⟩
  · have h61 : (60 : Int) < (n : Int) := by omega
    clear hr hrw hk hl hF
    go_enter Try.func6, Try.ntmps6
    go_wp2_with (first | (go_at_call 21; (first | (with_reducible refine (alive7 _).mono ?_)); rintro e w4 ⟨rfl, q2⟩; replace hB := Lib.hid (hB.out.trans (Below.mono q2 hB.out.size)); clear q2))
    go_ret
    exact ⟨rfl, hB.out⟩
end Go.Proofs.Ytegffpjhdodldaa

/- The reference's ReadBytes (as in the texts of layer 4, over fewer texts). The reference's Decode. -/
import Derived.Test.YtoknefeciopdpaaGreatDoorV22
import Derived.Test.YtoknefeciopdpaaGreatDoorV17
import Derived.Deep.CutBlock
namespace Go.Proofs.YtoknefeciopdpaaGreatDoor.wir.val
open Go.RowKit Go.YtoknefeciopdpaaGreatDoor
set_option linter.unusedVariables false
theorem own_nil (w : World) : OwnB w.heap.size 5 (w.alloc (.cells #[] 5)) (.slice (some ⟨w.heap.size, 0, none⟩) 0 0) [] :=
  ⟨rfl, .inr ⟨w.heap.size, 0, _, rfl, Nat.le_refl _, heap_alloc_new w _, Nat.le_refl _, by decide, rfl, rfl⟩⟩
theorem readC_none1 {l : List Int} {M : Nat} {size n u : Nat} (hre : readF l = some (n, u)) (h : readC l (M : Int) size = none) : ¬ ((n : Int) ≤ (M : Int) ∧ n ≤ (l.length - u) / size) := by
  intro hc
  unfold readC at h
  rw [hre] at h
  simp only [hc, and_self, if_true] at h
  cases h
theorem rreadBytes_no (l : List Int) (bv : Value) (most : Int) (h0 : 0 ≤ most) (hmx : most ≤ 9223372036854775807) (w : World) (hr : RdB w bv l) (hl : Bytes l) (hlm : l.length ≤ 1000000) (h : readC l most 1 = none) :
    Calls Tryz.prog 90 #[bv, .int .i64 most] w fun e w' => e = .returned (.tuple #[.slice none 0 0, .int .i64 0, .int .i64 12]) ∧ Below w.heap.size w w' := by
  have hn := rreadNumber_any l bv w hr hl hlm
  obtain ⟨a, c, rfl⟩ := hr.slice
  obtain ⟨M, rfl⟩ : ∃ M : Nat, most = (M : Int) := ⟨most.toNat, by omega⟩
  cases hre : readF l with
  | none =>
    obtain ⟨e1, e2, e3⟩ := rd_none hre
    rw [e1, e2, e3] at hn
    have hn' := Lib.hid hn
    clear hn hr hl h hre e1 e2 e3
    generalize l.length = L at *
    go_enter Tryz.func90, Tryz.ntmps90
    go_wp2_with (go_at_call 52; (with_reducible refine (hn'.out).mono ?_); rintro e w1 ⟨rfl, hb⟩; have hb' := Lib.hid hb; clear hb)
    go_ret3
    exact ⟨rfl, hb'.out⟩
  | some p =>
    obtain ⟨n, u⟩ := p
    obtain ⟨e1, e2, e3⟩ := rd_some hre
    have hul := (readF_some hl hre).2.2.1
    have hn64 := (readF_some hl hre).1
    rw [e1, e2, e3] at hn
    have hn' := Lib.hid hn
    have hno := readC_none1 hre h
    rw [Nat.div_one] at hno
    clear hn hr hl h hre e1 e2 e3
    generalize l.length = L at *
    obtain ⟨D, hD⟩ : ∃ D, L - u = D := ⟨_, rfl⟩
    have hD' : (L : Int) - (u : Int) = (D : Int) := by omega
    have hDm : D ≤ 1000000 := by omega
    rw [hD] at hno
    by_cases g1 : (M : Int) < (n : Int)
    · clear hno
      go_enter Tryz.func90, Tryz.ntmps90
      go_wp2_with (go_at_call 52; (with_reducible refine (hn'.out).mono ?_); rintro e w1 ⟨rfl, hb⟩; have hb' := Lib.hid hb; clear hb)
      go_ret3
      exact ⟨rfl, hb'.out⟩
    · have g2 : D < n := by omega
      have g3 : (n : Int) ≤ (M : Int) := by omega
      clear hno g1
      go_enter Tryz.func90, Tryz.ntmps90
      go_wp2_with (go_at_call 52; (with_reducible refine (hn'.out).mono ?_); rintro e w1 ⟨rfl, hb⟩; have hb' := Lib.hid hb; clear hb)
      go_ret3
      exact ⟨rfl, hb'.out⟩
theorem rreadBytes_ok (l : List Int) (bv : Value) (most : Int) (h0 : 0 ≤ most) (hmx : most ≤ 9223372036854775807) (w : World) (hr : RdB w bv l) (hl : Bytes l) (hlm : l.length ≤ 1000000) (n u : Nat) (h : readC l most 1 = some (n, u)) :
    Calls Tryz.prog 90 #[bv, .int .i64 most] w fun e w' => ∃ v, e = .returned (.tuple #[v, .int .i64 ((u + n : Nat) : Int), .int .i64 0]) ∧ OwnB w.heap.size 5 w' v ((l.drop u).take n) ∧ Below w.heap.size w w' := by
  have hn := rreadNumber_any l bv w hr hl hlm
  obtain ⟨hre, g1, g2⟩ := readC_some h
  obtain ⟨e1, e2, e3⟩ := rd_some hre
  have hul := (readF_some hl hre).2.2.1
  have hu1 : 1 ≤ u := by rw [(readF_some hl hre).2.1]; exact numL_pos n
  rw [e1, e2, e3] at hn
  rw [Nat.div_one] at g2
  obtain ⟨M, rfl⟩ : ∃ M : Nat, most = (M : Int) := ⟨most.toNat, by omega⟩
  rcases hr with ⟨a, c, rfl, _, rfl⟩ | ⟨b, o, c, rfl, r1, r2, r3, r4⟩
  · simp at hul; omega
  have hrd : RdB w (.slice (some ⟨b, o, none⟩) l.length c) l := .inr ⟨b, o, c, rfl, r1, r2, r3, r4⟩
  have hlen := Lib.hid (show ((l.drop u).take n).length = n by rw [List.length_take, List.length_drop]; omega)
  have hfin := Lib.hid (fun cap (h1 : n ≤ cap) (h2 : cap ≤ c) => rdB_sub hrd u n cap (by omega) h1 h2)
  have hempty := Lib.hid (fun (h : n = 0) (A : Option Addr) (C : Nat) (hA : A ≠ none) => (show RdB w (.slice A 0 C) ((l.drop u).take n) from .inl ⟨A, C, rfl, fun h => absurd h hA, by rw [h]; simp⟩))
  have hn' := Lib.hid hn
  unfold maxLen at r2
  clear hn hl h hre e1 e2 e3 hrd r4
  generalize l.length = L at *
  generalize (l.drop u).take n = R at *
  obtain ⟨D, hD⟩ : ∃ D, L - u = D := ⟨_, rfl⟩
  have hD' : (L : Int) - (u : Int) = (D : Int) := by omega
  rw [hD] at g2
  obtain ⟨V, hV⟩ : ∃ V, u + n = V := ⟨_, rfl⟩
  have hV' : (u : Int) + (n : Int) = (V : Int) := by omega
  rw [hV]
  have hVu : V - u = n := by omega
  have hVc : V ≤ c := by omega
  have huV : u ≤ V := by omega
  rcases Decidable.em (c = u) with hcu | gc
  · obtain rfl : n = 0 := by omega
    have he := Lib.hid (hempty.out rfl)
    obtain rfl : V = u := by omega
    subst hcu
    clear hempty hfin hVu hV
    go_enter Tryz.func90, Tryz.ntmps90
    go_wp2_with (first
      | (go_at_call 52; (with_reducible refine (hn'.out).mono ?_); rintro e w1 ⟨rfl, hb⟩; have hb' := Lib.hid hb; clear hb)
      | (refine appendB rfl _ _ 33 rfl w1.heap.size 5 Tryz.underlying33 (by kernel_rfl) _ rfl [] (own_nil w1) (.slice (some ⟨b, o, none⟩) 0 0) rfl R ((he.out _ _ (by simp)).mono (hb'.out.trans ((below_a1 w1 _).mono hb'.out.size))) (by rw [hlen.out]; simp) (by simp) ?_; intro v' w' h1 h2; have hB := Lib.hid (hb'.out.trans (((below_a1 w1 _).trans ((own_nil w1).below h2 (by simp))).mono hb'.out.size)); have h1' := Lib.hid (h1.mono hb'.out.size); clear h1 h2; refine Stop.go ?_))
    go_ret3
    exact ⟨_, rfl, h1'.out, hB.out⟩
  · go_enter Tryz.func90, Tryz.ntmps90
    go_wp2_with (first
      | (go_at_call 52; (with_reducible refine (hn'.out).mono ?_); rintro e w1 ⟨rfl, hb⟩; have hb' := Lib.hid hb; clear hb)
      | (refine appendB rfl _ _ 33 rfl w1.heap.size 5 Tryz.underlying33 (by kernel_rfl) _ rfl [] (own_nil w1) (.slice (some ⟨b, o + u, none⟩) n (c - u)) rfl R ((hfin.out _ (by omega) (by omega)).mono (hb'.out.trans ((below_a1 w1 _).mono hb'.out.size))) (by rw [hlen.out]; simp; omega) (by simp) ?_; intro v' w' h1 h2; have hB := Lib.hid (hb'.out.trans (((below_a1 w1 _).trans ((own_nil w1).below h2 (by simp))).mono hb'.out.size)); have h1' := Lib.hid (h1.mono hb'.out.size); clear h1 h2; refine Stop.go ?_))
    go_ret3
    exact ⟨_, rfl, h1'.out, hB.out⟩
end Go.Proofs.YtoknefeciopdpaaGreatDoor.wir.val
namespace Go.Proofs.YtoknefeciopdpaaGreatDoor.wir.val
open Go.RowKit Go.YtoknefeciopdpaaGreatDoor
set_option linter.unusedVariables false
theorem chk_iff (k n : Int) (b : Nat) (s : ByteArray) : (chkE k n b s != 0) = !validV k n b s := by unfold chkE; cases validV k n b s <;> rfl
theorem dec_none {l : List Int} (h : decF l = none) : decR l = .tuple #[vA 0 0 0 ⟨#[]⟩, .int .i64 0, .int .i64 12] := by unfold decR; rw [h]
theorem dec_some {l : List Int} {v : Va} {u : Nat} (h : decF l = some (v, u)) : decR l = .tuple #[v.v, .int .i64 (u : Nat), .int .i64 0] := by unfold decR; rw [h]
theorem val_num (n : Int) : validV 1 n 0 ⟨#[]⟩ = true := by unfold validV; rw [if_pos rfl]; rfl
theorem val_flt (b : Nat) : validV 2 0 b ⟨#[]⟩ = decide (canF b = b) := by
  unfold validV
  rw [if_neg (by decide), if_pos rfl, show decide ((0 : Int) = 0) = true from rfl, show decide ((⟨#[]⟩ : ByteArray).size = 0) = true from rfl, Bool.true_and, Bool.and_true]
theorem val_txt (s : ByteArray) (hs : s.size ≤ 30) : validV 3 0 0 s = okB (sI s) := by
  unfold validV
  rw [if_neg (by decide), if_neg (by decide), if_pos rfl, show decide ((0 : Int) = 0) = true from rfl, show decide ((0 : Nat) = 0) = true from rfl, Bool.true_and, Bool.true_and, decide_eq_true hs, Bool.true_and]
theorem val_other {k : Int} (h1 : k ≠ 1) (h2 : k ≠ 2) (h3 : k ≠ 3) (n : Int) (b : Nat) (s : ByteArray) : validV k n b s = false := by
  unfold validV
  rw [if_neg h1, if_neg h2, if_neg h3]
/-- One field of a value is stored. -/
theorem set_n {w : World} {g : Nat} {k n : Int} {b : Nat} {s : ByteArray} (h : w.heap[g]? = some (.cells (vC k n b s) 26 (0, 0))) (n' : Int) : (w.setCell ⟨g, 1, none⟩ (.int .i64 n')).heap[g]? = some (.cells (vC k n' b s) 26 (0, 0)) := setCell_row h 1 _
theorem set_b {w : World} {g : Nat} {k n : Int} {b : Nat} {s : ByteArray} (h : w.heap[g]? = some (.cells (vC k n b s) 26 (0, 0))) (b' : Nat) : (w.setCell ⟨g, 2, none⟩ (.int .u64 (b' : Int))).heap[g]? = some (.cells (vC k n b' s) 26 (0, 0)) := setCell_row h 2 _
theorem set_s {w : World} {g : Nat} {k n : Int} {b : Nat} {s : ByteArray} (h : w.heap[g]? = some (.cells (vC k n b s) 26 (0, 0))) (s' : ByteArray) : (w.setCell ⟨g, 3, none⟩ (.string s')).heap[g]? = some (.cells (vC k n b s') 26 (0, 0)) := setCell_row h 3 _
theorem set_below {w0 w : World} {B g i : Nat} {v : Value} {k n : Int} {b : Nat} {s : ByteArray} (h : w.heap[g]? = some (.cells (vC k n b s) 26 (0, 0))) (hB : Below B w0 w) (hg : B ≤ g) : Below B w0 (w.setCell ⟨g, i, none⟩ v) := by
  rw [setCell_eq h]; exact below_setRow' hB hg _
/-- What the part behind the kind must have left. -/
structure Part (l : List Int) (K N : Int) (b : Nat) (s : ByteArray) (U E : Int) : Prop where
  u : -1 ≤ U ∧ U ≤ 2000000
  hb : b < 18446744073709551616
  hs : s.size ≤ 1000000
  e : decR l = if E = 0 ∧ U + 1 ≤ (l.length : Int) ∧ validV K N b s = true then .tuple #[vA K N b s, .int .i64 (U + 1), .int .i64 0] else .tuple #[vA 0 0 0 ⟨#[]⟩, .int .i64 0, .int .i64 12]
theorem decF_step {l : List Int} (h : l.length ≠ 0) : decF l = match decP (ith l 0) (l.drop 1) with | none => none | some p => some (p.1, 1 + p.2) := by
  unfold decF; rw [if_neg h]; rfl
theorem part_num (l : List Int) (hb : Bytes (l.drop 1)) (hd : decF l = match decP 1 (l.drop 1) with | none => none | some p => some (p.1, 1 + p.2)) (h0 : l.length ≠ 0) (hm : l.length ≤ 1000) :
    Part l 1 (unfoldN (rdN (l.drop 1))) 0 ⟨#[]⟩ (rdU (l.drop 1) : Nat) (rdE (l.drop 1)) := by
  have hL : (l.drop 1).length + 1 = l.length := by rw [List.length_drop]; omega
  cases h : readF (l.drop 1) with
  | none =>
    obtain ⟨e1, e2, e3⟩ := rd_none h
    rw [e1, e2, e3]
    have hF : decF l = none := by rw [hd]; unfold decP; rw [if_pos rfl, h]
    exact ⟨⟨by decide, by decide⟩, by decide, by decide, by rw [dec_none hF, if_neg (by simp)]⟩
  | some p =>
    obtain ⟨n, u⟩ := p
    obtain ⟨e1, e2, e3⟩ := rd_some h
    have hu := (readF_some hb h).2.2.1
    rw [e1, e2, e3]
    have hF : decF l = some (⟨1, unfoldN n, 0, ⟨#[]⟩⟩, 1 + u) := by rw [hd]; unfold decP; rw [if_pos rfl, h]
    refine ⟨⟨by omega, by omega⟩, by decide, by decide, ?_⟩
    rw [dec_some hF, if_pos ⟨rfl, by omega, val_num _⟩, show ((1 + u : Nat) : Int) = (u : Int) + 1 by omega]
theorem part_flt (l : List Int) (hb : Bytes (l.drop 1)) (hd : decF l = match decP 2 (l.drop 1) with | none => none | some p => some (p.1, 1 + p.2)) (h0 : l.length ≠ 0) (m : Nat) (hm : m = min 8 (l.drop 1).length) :
    Part l 2 0 (valN (l.drop 1) m) ⟨#[]⟩ 8 0 := by
  have hL : (l.drop 1).length + 1 = l.length := by rw [List.length_drop]; omega
  have h64 := valN_lt64 (l.drop 1) hb m (by omega)
  refine ⟨⟨by decide, by decide⟩, h64, by decide, ?_⟩
  by_cases h8 : (l.drop 1).length < 8
  · have hF : decF l = none := by rw [hd]; unfold decP; rw [if_neg (by decide), if_pos rfl, if_pos h8]
    rw [dec_none hF, if_neg (by omega)]
  · obtain rfl : m = 8 := by omega
    by_cases hc : canF (valN (l.drop 1) 8) = valN (l.drop 1) 8
    · have hF : decF l = some (⟨2, 0, valN (l.drop 1) 8, ⟨#[]⟩⟩, 1 + 8) := by rw [hd]; unfold decP; rw [if_neg (by decide), if_pos rfl, if_neg h8, if_pos hc]
      rw [dec_some hF, if_pos ⟨rfl, by omega, by rw [val_flt, decide_eq_true hc]⟩]; rfl
    · have hF : decF l = none := by rw [hd]; unfold decP; rw [if_neg (by decide), if_pos rfl, if_neg h8, if_neg hc]
      rw [dec_none hF, if_neg (by rw [val_flt, decide_eq_false hc]; simp)]
theorem part_txt0 (l : List Int) (hd : decF l = match decP 3 (l.drop 1) with | none => none | some p => some (p.1, 1 + p.2)) (h : readC (l.drop 1) 30 1 = none) :
    Part l 3 0 0 (toS []) 0 12 := by
  have hF : decF l = none := by rw [hd]; unfold decP; rw [if_neg (by decide), if_neg (by decide), if_pos rfl, h]
  exact ⟨⟨by decide, by decide⟩, by decide, by decide, by rw [dec_none hF, if_neg (by simp)]⟩
theorem part_txt (l : List Int) (hb : Bytes (l.drop 1)) (hd : decF l = match decP 3 (l.drop 1) with | none => none | some p => some (p.1, 1 + p.2)) (h0 : l.length ≠ 0) (hm : l.length ≤ 1000) (n u : Nat) (h : readC (l.drop 1) 30 1 = some (n, u)) :
    Part l 3 0 0 (toS (((l.drop 1).drop u).take n)) ((u + n : Nat) : Int) 0 := by
  have hL : (l.drop 1).length + 1 = l.length := by rw [List.length_drop]; omega
  obtain ⟨g1, g2, g3⟩ := readC_some h
  have hu := (readF_some hb g1).2.2.1
  rw [Nat.div_one] at g3
  have hs := toS_size (((l.drop 1).drop u).take n)
  have hl2 : (((l.drop 1).drop u).take n).length ≤ 30 := by rw [List.length_take]; omega
  have hdP : decP 3 (l.drop 1) = if txtE (toS (((l.drop 1).drop u).take n)) = 0 then some (⟨3, 0, 0, toS (((l.drop 1).drop u).take n)⟩, u + n) else none := by unfold decP; rw [if_neg (by decide), if_neg (by decide), if_pos rfl, h]
  generalize toS (((l.drop 1).drop u).take n) = s at *
  rw [hdP] at hd
  have hE : txtE s = if okB (sI s) = true then 0 else 8 := by unfold txtE; rw [if_neg (by omega)]
  refine ⟨⟨by omega, by omega⟩, by decide, by omega, ?_⟩
  rw [val_txt s (by omega)]
  cases ho : okB (sI s)
  · rw [ho] at hE
    have hF : decF l = none := by rw [hd, hE]; rfl
    rw [dec_none hF, if_neg (by simp)]
  · rw [ho] at hE
    have hF : decF l = some (⟨3, 0, 0, s⟩, 1 + (u + n)) := by rw [hd, hE]; rfl
    rw [dec_some hF, if_pos ⟨rfl, by omega, rfl⟩, show ((1 + (u + n) : Nat) : Int) = ((u + n : Nat) : Int) + 1 by omega]
theorem part_other (l : List Int) (K : Int) (hd : decF l = match decP K (l.drop 1) with | none => none | some p => some (p.1, 1 + p.2)) (h1 : K ≠ 1) (h2 : K ≠ 2) (h3 : K ≠ 3) : Part l K 0 0 ⟨#[]⟩ 0 0 := by
  have hF : decF l = none := by rw [hd]; unfold decP; rw [if_neg h1, if_neg h2, if_neg h3]
  exact ⟨⟨by decide, by decide⟩, by decide, by decide, by rw [dec_none hF, if_neg (by rw [val_other h1 h2 h3]; simp)]⟩
set_option maxHeartbeats 8000000 in
set_option maxRecDepth 100000 in
theorem rdecode_any (l : List Int) (bv : Value) (w : World) (hr : RdB w bv l) (hl : Bytes l) (hlm : l.length ≤ 1000) :
    Calls Tryz.prog 91 #[bv] w fun e w' => e = .returned (decR l) ∧ Below w.heap.size w w' := by
  obtain ⟨W, hW⟩ : ∃ W, W = w.alloc (.cells #[.int .u8 0, .int .i64 0, .int .u64 0, .string ⟨#[]⟩] 26) := ⟨_, rfl⟩
  have hB := Lib.hid (show Below w.heap.size w W by rw [hW]; exact below_a w _)
  have hrow := Lib.hid (show W.heap[w.heap.size]? = some (.cells #[.int .u8 0, .int .i64 0, .int .u64 0, .string ⟨#[]⟩] 26 (0, 0)) by rw [hW]; exact heap_alloc_new w _)
  have hr1 := hr.mono hB.out
  by_cases h0 : l.length = 0
  · have e : decR l = .tuple #[vA 0 0 0 ⟨#[]⟩, .int .i64 0, .int .i64 12] := by unfold decR decF; rw [if_pos h0]
    rw [e]
    obtain ⟨a, c, rfl⟩ := hr.slice
    clear hr hr1 hl hlm e
    generalize l.length = N at *
    go_enter Tryz.func91, Tryz.ntmps91
    go_upto_region 1 with fail
    rw [← hW]
    clear hW
    go_wp2_with (refine storeOver _ w.heap.size _ rfl 26 _ _ rfl (vC 0 0 0 ⟨#[]⟩) 26 hrow.out rfl rfl info_val rfl (val_one _ _ _ _) ?_; intro w2 hr2 hb2; have hr2' := Lib.hid hr2; have hb2' := Lib.hid hb2; clear hr2 hb2)
    exact bodyPost_ret (results_row_tmp2 rfl _ _ w.heap.size 26 _ _ _ rfl hr2'.out Tryz.underlying26 rfl info_val) rfl ⟨rfl, hB.out.trans hb2'.out⟩
  rcases hr with ⟨_, _, _, _, rfl⟩ | ⟨b, o, c, rfl, g1, g2, g3, g4⟩
  · simp at h0
  obtain ⟨R, hR⟩ : ∃ R, R = decR l := ⟨_, rfl⟩
  rw [← hR]
  have hc0 := (hB.out.cell (p := ⟨b, o, none⟩) g3).trans (g4 0 (by omega))
  have g3' := Lib.hid (Nat.lt_of_lt_of_le g3 hB.out.size)
  have g4' := Lib.hid (fun i (hi : i < l.length) => (hB.out.cell (p := ⟨b, o + i, none⟩) g3).trans (g4 i hi))
  have hcw := Lib.hid (fun wz (h : Below w.heap.size w wz) i (hi : i < l.length) => show wz.cell? ⟨b, o + i, none⟩ = some (.int .u8 (ith l i)) from (h.cell (p := ⟨b, o + i, none⟩) g3).trans (g4 i hi))
  have hlb := Lib.hid hl
  have hlen := Lib.hid hlm
  have hk0 := Lib.hid (hl 0)
  have hR' := Lib.hid hR
  obtain ⟨K, hK⟩ : ∃ K, K = ith l 0 := ⟨_, rfl⟩
  obtain ⟨N, hN⟩ : ∃ N, N = l.length := ⟨_, rfl⟩
  rw [← hK] at hc0 hk0
  rw [← hN] at hr1 g1 h0 ⊢
  have hK' := Lib.hid hK
  have hN' := Lib.hid hN
  have hr1' := Lib.hid hr1
  unfold maxLen at g2
  have i1 : (1 : Int) ≤ (N : Int) := by omega
  have i2 : (N : Int) ≤ (c : Int) := by omega
  have i3 : (0 : Int) < (N : Int) := by omega
  have i4 : 0 < N := by omega
  have i5 : ((N : Int) == 0) = false := by simpa using h0
  clear hr1 hl hlm hR g3 g4 hK hN
  go_enter Tryz.func91, Tryz.ntmps91
  go_upto_region 1 with fail
  rw [← hW]
  clear hW
  go_upto_block 0 with fail
  obtain ⟨W2, hW2⟩ : ∃ X, X = W.alloc (.cells #[.int .u8 K, .int .i64 0, .int .u64 0, .string ⟨#[]⟩] 26) := ⟨_, rfl⟩
  have bW2 := Lib.hid (show Below W.heap.size W W2 by rw [hW2]; exact below_a W _)
  have hv := Lib.hid (show W2.heap[W.heap.size]? = some (.cells (vC K 0 0 ⟨#[]⟩) 26 (0, 0)) by rw [hW2]; exact heap_alloc_new W _)
  have hz := Lib.hid (rowB hrow.out bW2.out (Array.getElem?_eq_some_iff.1 hrow.out).1)
  have hB2 := Lib.hid (hB.out.trans (bW2.out.mono hB.out.size))
  have hbr := Lib.hid (hr1'.out.mono bW2.out)
  have hgz := Lib.hid (Array.getElem?_eq_some_iff.1 hrow.out).1
  have hc2 := Lib.hid (fun wz (h : Below W2.heap.size W2 wz) i (hi : i < l.length) => show wz.cell? ⟨b, o + i, none⟩ = some (.int .u8 (ith l i)) from (h.cell (p := ⟨b, o + i, none⟩) (Nat.lt_of_lt_of_le g3'.out bW2.out.size)).trans ((bW2.out.cell (p := ⟨b, o + i, none⟩) g3'.out).trans (g4'.out i hi)))
  rw [← hW2]
  clear hW2 hrow hB g4' hr1'
  generalize hg5 : W.heap.size = g5 at *
  clear hc0
  have bW2s := Lib.hid (show g5 < W2.heap.size from (Array.getElem?_eq_some_iff.1 hv.out).1)
  have hgB := Lib.hid (show w.heap.size ≤ g5 from Nat.le_of_lt hgz.out)
  have hne := Lib.hid (show w.heap.size ≠ g5 from Nat.ne_of_lt hgz.out)
  clear bW2 hg5 g3'
  go_cut [6, 7] (fun s6 s7 wz => ∃ (N' : Int) (b' : Nat) (s' : ByteArray) (U E : Int), s6 = .int .i64 U ∧ s7 = .int .i64 E ∧ wz.heap[g5]? = some (.cells (vC K N' b' s') 26 (0, 0)) ∧ wz.heap[w.heap.size]? = some (.cells #[.int .u8 0, .int .i64 0, .int .u64 0, .string ⟨#[]⟩] 26 (0, 0)) ∧ Below w.heap.size w wz ∧ Part l K N' b' s' U E)
  case first =>
    obtain ⟨⟨q0, q1, q2, q3⟩, f0, f1, f2, f3⟩ := four_of hv.out
    have hbl := bytes_drop l 1 hlb.out
    have hll : (l.drop 1).length + 1 = N := by rw [List.length_drop]; have := hN'.out; omega
    have hdF := decF_step (l := l) (by have := hN'.out; omega)
    rw [← hK'.out] at hdF
    have hlm1 : (l.drop 1).length ≤ 1000000 := by have := hlen.out; rw [List.length_drop]; omega
    have hsub0 : ¬ c = 1 → RdB W2 (.slice (some ⟨b, o + 1, none⟩) (N - 1) (c - 1)) (l.drop 1) := fun hc => by
      have hh := rdB_sub hbr.out 1 (N - 1) (c - 1) (by omega) (by omega) (by omega)
      rwa [show (l.drop 1).take (N - 1) = l.drop 1 from List.take_of_length_le (by omega)] at hh
    have hsub1 : c = 1 → RdB W2 (.slice (some ⟨b, o, none⟩) 0 0) (l.drop 1) := fun hc => by
      rw [List.eq_nil_of_length_eq_zero (show (l.drop 1).length = 0 by omega)]
      exact .inl ⟨_, _, rfl, (fun h => by cases h), rfl⟩
    by_cases h1 : K = 1
    · subst h1
      have hPt : Part l 1 (unfoldN (rdN (l.drop 1))) 0 ⟨#[]⟩ (rdU (l.drop 1) : Nat) (rdE (l.drop 1)) := part_num l hbl hdF (by have := hN'.out; omega) (by have := hlen.out; omega)
      have hPt := Lib.hid hPt
      by_cases hcc : c = 1
      · obtain rfl : N = 1 := by omega
        subst hcc
        have hS := Lib.hid (rreadSigned_any _ _ _ (hsub1 rfl) hbl hlm1)
        generalize unfoldN (rdN (l.drop 1)) = FN at *
        generalize rdU (l.drop 1) = U at *
        generalize rdE (l.drop 1) = E at *
        clear hsub0 hsub1 hbl hll hdF hlm1
        go_wp2_with (go_at_call 133; (with_reducible refine (hS.out).mono ?_); rintro e w3 ⟨rfl, h9⟩; have hv3 := Lib.hid (rowB hv.out h9 bW2s.out); have hz3 := Lib.hid (rowB hz.out h9 (Nat.lt_trans hgz.out bW2s.out)); have hB3 := Lib.hid (hB2.out.trans (h9.mono hB2.out.size)); clear q0 q1 q2 q3 f0 f1 f2 f3 h9; obtain ⟨⟨q0, q1, q2, q3⟩, f0, f1, f2, f3⟩ := four_of hv3.out)
        go_meet
        exact ⟨FN, 0, ⟨#[]⟩, _, _, rfl, rfl, set_n hv3.out FN, (setCell_rows g5 1 _ _ hne.out).trans hz3.out, set_below hv3.out hB3.out hgB.out, hPt.out⟩
      · have hS := Lib.hid (rreadSigned_any _ _ _ (hsub0 hcc) hbl hlm1)
        generalize unfoldN (rdN (l.drop 1)) = FN at *
        generalize rdU (l.drop 1) = U at *
        generalize rdE (l.drop 1) = E at *
        clear hsub0 hsub1 hbl hll hdF hlm1
        go_wp2_with (go_at_call 133; (with_reducible refine (hS.out).mono ?_); rintro e w3 ⟨rfl, h9⟩; have hv3 := Lib.hid (rowB hv.out h9 bW2s.out); have hz3 := Lib.hid (rowB hz.out h9 (Nat.lt_trans hgz.out bW2s.out)); have hB3 := Lib.hid (hB2.out.trans (h9.mono hB2.out.size)); clear q0 q1 q2 q3 f0 f1 f2 f3 h9; obtain ⟨⟨q0, q1, q2, q3⟩, f0, f1, f2, f3⟩ := four_of hv3.out)
        go_meet
        exact ⟨FN, 0, ⟨#[]⟩, _, _, rfl, rfl, set_n hv3.out FN, (setCell_rows g5 1 _ _ hne.out).trans hz3.out, set_below hv3.out hB3.out hgB.out, hPt.out⟩
    by_cases h2 : K = 2
    · subst h2
      have hcell := Lib.hid (fun wz (h : Below w.heap.size w wz) (j : Nat) (hj : j < (l.drop 1).length) => show wz.cell? ⟨b, o + (j + 1), none⟩ = some (.int .u8 (ith (l.drop 1) j)) by
        rw [ith_drop, Nat.add_comm 1 j]; exact hcw.out wz h (j + 1) (by have := hN'.out; omega))
      obtain ⟨m, hm⟩ : ∃ m, m = min 8 (l.drop 1).length := ⟨_, rfl⟩
      have hPt := Lib.hid (part_flt l hbl hdF (by have := hN'.out; omega) m hm)
      have hbyte := Lib.hid (fun j => hbl j)
      have hval := Lib.hid (fun j (hj : j ≤ 7) => (show 0 ≤ (valN (l.drop 1) j : Int) ∧ (valN (l.drop 1) j : Int) < 72057594037927936 from by
        have h1 := valN_lt (l.drop 1) hbl j
        have h2 : (256 : Nat) ^ j ≤ 72057594037927936 := (show (256 : Nat) ^ j ≤ 256 ^ 7 from Nat.pow_le_pow_right (by decide) hj)
        omega))
      have hstep := Lib.hid (fun j => (show (valN (l.drop 1) (j + 1) : Int) = (valN (l.drop 1) j : Int) * 256 + ith (l.drop 1) j from by
        have := hbl j
        rw [valN]; omega))
      have hm8 : m ≤ 8 := by omega
      have hmN : m + 1 ≤ N := by omega
      have hmx := Lib.hid (show m = 8 ∨ m + 1 = N by omega)
      have hmL := Lib.hid (show m ≤ (l.drop 1).length by omega)
      have hI := Lib.hid (show Inv w [(g5, .cells (vC 2 0 (valN (l.drop 1) 0) ⟨#[]⟩) 26), (w.heap.size, .cells #[.int .u8 0, .int .i64 0, .int .u64 0, .string ⟨#[]⟩] 26)] W2 from ⟨hB2.out, fun p hp => by
        rcases List.mem_cons.1 hp with rfl | hp
        · exact hv.out
        · obtain rfl := List.mem_singleton.1 hp
          exact hz.out⟩)
      generalize l.drop 1 = l1 at *
      clear hsub0 hsub1 hbl hll hdF hlm1 hm q0 q1 q2 q3 f0 f1 f2 f3
      go_wp2
      go_loopw [8] (fun i wr => ∃ j : Nat, j ≤ m ∧ i = .int .i64 ((j + 1 : Nat) : Int) ∧ Inv w [(g5, .cells (vC 2 0 (valN l1 j) ⟨#[]⟩) 26), (w.heap.size, .cells #[.int .u8 0, .int .i64 0, .int .u64 0, .string ⟨#[]⟩] 26)] wr) (fun i _ => (9 - intOf i).toNat)
      case atStart => exact ⟨0, Nat.zero_le _, rfl, hI.out⟩
      case round =>
        obtain ⟨j, hj, rfl, hJ⟩ := hrel
        clear hI
        have hI := Lib.hid hJ
        clear hJ
        by_cases hlt : j < m
        · obtain ⟨q, hq⟩ : ∃ q, q = j + 1 := ⟨_, rfl⟩
          have hq2 : (((j + 1 : Nat)) : Int) = (q : Int) := by omega
          rw [hq2]
          have j1 : (q : Int) ≤ 8 := by omega
          have j2 : (q : Int) < (N : Int) := by omega
          have j3 : q ≤ 8 := by omega
          have j4 : q < N := by omega
          have j0 : j ≤ 7 := by omega
          have hbj := hbyte.out j
          have hxj := hval.out j (by omega)
          have hck := Lib.hid (fun w' (h : Inv w [(g5, .cells (vC 2 0 (valN l1 j) ⟨#[]⟩) 26), (w.heap.size, .cells #[.int .u8 0, .int .i64 0, .int .u64 0, .string ⟨#[]⟩] 26)] w') => hcell.out w' h.b j (by have := hmL.out; omega))
          rw [← hq] at hck
          have hcx := Lib.hid (fun w' (h : Inv w [(g5, .cells (vC 2 0 (valN l1 j) ⟨#[]⟩) 26), (w.heap.size, .cells #[.int .u8 0, .int .i64 0, .int .u64 0, .string ⟨#[]⟩] 26)] w') => show w'.cell? ⟨g5, 2, none⟩ = some (.int .u64 ((valN l1 j : Nat) : Int)) from (cellsV (h.r (g5, _) (List.mem_cons_self ..))).2.2.1)
          have hnx := hstep.out j
          have hnx2 := Lib.hid (show IntKind.u64.wrap ((valN l1 j : Int) * 256 + ith l1 j) = ((valN l1 (j + 1) : Nat) : Int) by rw [IntKind.wrap_u64]; omega)
          generalize hY : valN l1 (j + 1) = y at *
          have hY' := Lib.hid hY
          clear hY
          generalize valN l1 j = x at *
          generalize ith l1 j = z at *
          have hq' := Lib.hid hq
          have hnx3 := Lib.hid hnx
          clear hnx hq hq2
          go_upto_region 12 with fail
          refine wp_region_headN (C := Inv w [(g5, .cells (vC 2 0 x ⟨#[]⟩) 26), (w.heap.size, .cells #[.int .u8 0, .int .i64 0, .int .u64 0, .string ⟨#[]⟩] 26)]) 9 [] (by kernel_rfl) (by kernel_rfl) (hI.out.drew) ?_
          simp only [List.take_succ_cons, List.take_zero, List.drop_succ_cons, List.drop_zero]
          repeat (first | (refine head_step _ (by rfl) (quiet_cell 24 _ rfl g5 2 rfl (.int .u64 (x : Int)) (fun w h => hcx.out w h) Tryz.isAgg24) rfl rfl (fun K hK => ?_); go_simp; refine hK _ ?_; clear hK K) | (refine head_step _ (by rfl) (quiet_cell 5 _ rfl b (o + q) rfl (.int .u8 z) (fun w h => hck.out w h) Tryz.isAgg5) rfl rfl (fun K hK => ?_); go_simp; refine hK _ ?_; clear hK K) | (refine head_walk (by rfl) (fun K hK => ?_); go_simp; first | (refine hK _ ?_; clear hK K) | (refine ⟨_, fun _ _ => rfl, ?_⟩; refine hK _ ?_; clear hK K)))
          refine head_nil ?_
          intro w4 h9
          have hI4 := Lib.hid h9
          have hv4 := Lib.hid (h9.r (g5, .cells (vC 2 0 x ⟨#[]⟩) 26) (List.mem_cons_self ..))
          have hz4 := Lib.hid (h9.r (w.heap.size, .cells #[.int .u8 0, .int .i64 0, .int .u64 0, .string ⟨#[]⟩] 26) (List.mem_cons_of_mem _ (List.mem_cons_self ..)))
          obtain ⟨⟨q0, q1, q2, q3⟩, f0, f1, f2, f3⟩ := four_of hv4.out
          clear h9 hck hcx
          go_wp2
          refine NoPanic.normal ?_
          clear q0 q1 q2 q3 f0 f1 f2 f3
          go_wp2
          go_roundw
          case rel =>
            refine ⟨j + 1, by omega, by have := hq'.out; go_num, ?_⟩
            rw [hY'.out]
            rw [show (256 * (x : Int) + z) = (y : Int) by have := hnx3.out; omega]
            refine ⟨set_below hv4.out hI4.out.b hgB.out, fun p hp => ?_⟩
            rcases List.mem_cons.1 hp with rfl | hp
            · exact set_b hv4.out y
            · obtain rfl := List.mem_singleton.1 hp
              exact (setCell_rows g5 2 _ _ hne.out).trans hz4.out
          case measure => have := hq'.out; simp [intOf]; omega
        · obtain rfl : j = m := by omega
          obtain ⟨q, hq⟩ : ∃ q, q = j + 1 := ⟨_, rfl⟩
          rw [← hq]
          have hv4 := Lib.hid (hI.out.r (g5, .cells (vC 2 0 (valN l1 j) ⟨#[]⟩) 26) (List.mem_cons_self ..))
          have hz4 := Lib.hid (hI.out.r (w.heap.size, .cells #[.int .u8 0, .int .i64 0, .int .u64 0, .string ⟨#[]⟩] 26) (List.mem_cons_of_mem _ (List.mem_cons_self ..)))
          have hB4 := Lib.hid hI.out.b
          clear hbyte hval hstep hI hlt
          have hx := hmx.out
          by_cases h8 : (q : Int) ≤ 8
          · have j2 : ¬ (q : Int) < (N : Int) := by omega
            clear hx hmx hmL hm8 hmN hq hj
            go_wp2
            go_meet
            exact ⟨0, valN l1 j, ⟨#[]⟩, 8, 0, rfl, rfl, hv4.out, hz4.out, hB4.out, hPt.out⟩
          · clear hx hmx hmL hm8 hmN hq hj
            go_wp2
            go_meet
            exact ⟨0, valN l1 j, ⟨#[]⟩, 8, 0, rfl, rfl, hv4.out, hz4.out, hB4.out, hPt.out⟩
    by_cases h3 : K = 3
    · subst h3
      by_cases hcc : c = 1
      · obtain rfl : N = 1 := by omega
        subst hcc
        have hsb := hsub1 rfl
        cases hC : readC (l.drop 1) 30 1 with
        | none =>
          have hS := Lib.hid (rreadBytes_no _ _ 30 (by omega) (by omega) _ hsb hbl hlm1 hC)
          have hPt := Lib.hid (part_txt0 l hdF hC)
          have hkc := Lib.hid (fun wx => run_toS (P := Tryz.prog) (w := wx) (v := .slice none 0 0) (l := []) (.inl ⟨none, 0, rfl, fun _ => rfl, rfl⟩) 33 9 5 Tryz.underlying33 Tryz.underlying5 Tryz.underlying9)
          generalize toS [] = SN at *
          clear hsub0 hsub1 hbl hll hdF hlm1 hC hsb
          go_wp2_with (go_at_call 90; (with_reducible refine (hS.out).mono ?_); rintro e w3 ⟨rfl, h9⟩; have hv3 := Lib.hid (rowB hv.out h9 bW2s.out); have hz3 := Lib.hid (rowB hz.out h9 (Nat.lt_trans hgz.out bW2s.out)); have hB3 := Lib.hid (hB2.out.trans (h9.mono hB2.out.size)); have hk3 := hkc.out w3; clear q0 q1 q2 q3 f0 f1 f2 f3 h9; obtain ⟨⟨q0, q1, q2, q3⟩, f0, f1, f2, f3⟩ := four_of hv3.out)
          go_meet
          exact ⟨0, 0, SN, _, _, rfl, rfl, set_s hv3.out SN, (setCell_rows g5 3 _ _ hne.out).trans hz3.out, set_below hv3.out hB3.out hgB.out, hPt.out⟩
        | some p =>
          obtain ⟨n, u⟩ := p
          have hS := Lib.hid (rreadBytes_ok _ _ 30 (by omega) (by omega) _ hsb hbl hlm1 n u hC)
          have hPt := Lib.hid (part_txt l hbl hdF (by have := hN'.out; omega) (by have := hlen.out; omega) n u hC)
          have hkc := Lib.hid (fun wx v (h : RdB wx v (((l.drop 1).drop u).take n)) => run_toS (P := Tryz.prog) h 33 9 5 Tryz.underlying33 Tryz.underlying5 Tryz.underlying9)
          generalize ((l.drop 1).drop u).take n = TX at *
          generalize toS TX = SN at *
          generalize u + n = UN at *
          clear hsub0 hsub1 hbl hll hdF hlm1 hC hsb
          go_wp2_with (go_at_call 90; (with_reducible refine (hS.out).mono ?_); rintro e w3 ⟨sv, rfl, h8, h9⟩; have hv3 := Lib.hid (rowB hv.out h9 bW2s.out); have hz3 := Lib.hid (rowB hz.out h9 (Nat.lt_trans hgz.out bW2s.out)); have hB3 := Lib.hid (hB2.out.trans (h9.mono hB2.out.size)); obtain ⟨sa, sc, hsv⟩ := h8.rd.slice; have hk3 := hkc.out w3 _ h8.rd; subst hsv; clear q0 q1 q2 q3 f0 f1 f2 f3 h9 h8; obtain ⟨⟨q0, q1, q2, q3⟩, f0, f1, f2, f3⟩ := four_of hv3.out)
          go_meet
          exact ⟨0, 0, SN, _, _, rfl, rfl, set_s hv3.out SN, (setCell_rows g5 3 _ _ hne.out).trans hz3.out, set_below hv3.out hB3.out hgB.out, hPt.out⟩
      · have hsb := hsub0 hcc
        cases hC : readC (l.drop 1) 30 1 with
        | none =>
          have hS := Lib.hid (rreadBytes_no _ _ 30 (by omega) (by omega) _ hsb hbl hlm1 hC)
          have hPt := Lib.hid (part_txt0 l hdF hC)
          have hkc := Lib.hid (fun wx => run_toS (P := Tryz.prog) (w := wx) (v := .slice none 0 0) (l := []) (.inl ⟨none, 0, rfl, fun _ => rfl, rfl⟩) 33 9 5 Tryz.underlying33 Tryz.underlying5 Tryz.underlying9)
          generalize toS [] = SN at *
          clear hsub0 hsub1 hbl hll hdF hlm1 hC hsb
          go_wp2_with (go_at_call 90; (with_reducible refine (hS.out).mono ?_); rintro e w3 ⟨rfl, h9⟩; have hv3 := Lib.hid (rowB hv.out h9 bW2s.out); have hz3 := Lib.hid (rowB hz.out h9 (Nat.lt_trans hgz.out bW2s.out)); have hB3 := Lib.hid (hB2.out.trans (h9.mono hB2.out.size)); have hk3 := hkc.out w3; clear q0 q1 q2 q3 f0 f1 f2 f3 h9; obtain ⟨⟨q0, q1, q2, q3⟩, f0, f1, f2, f3⟩ := four_of hv3.out)
          go_meet
          exact ⟨0, 0, SN, _, _, rfl, rfl, set_s hv3.out SN, (setCell_rows g5 3 _ _ hne.out).trans hz3.out, set_below hv3.out hB3.out hgB.out, hPt.out⟩
        | some p =>
          obtain ⟨n, u⟩ := p
          have hS := Lib.hid (rreadBytes_ok _ _ 30 (by omega) (by omega) _ hsb hbl hlm1 n u hC)
          have hPt := Lib.hid (part_txt l hbl hdF (by have := hN'.out; omega) (by have := hlen.out; omega) n u hC)
          have hkc := Lib.hid (fun wx v (h : RdB wx v (((l.drop 1).drop u).take n)) => run_toS (P := Tryz.prog) h 33 9 5 Tryz.underlying33 Tryz.underlying5 Tryz.underlying9)
          generalize ((l.drop 1).drop u).take n = TX at *
          generalize toS TX = SN at *
          generalize u + n = UN at *
          clear hsub0 hsub1 hbl hll hdF hlm1 hC hsb
          go_wp2_with (go_at_call 90; (with_reducible refine (hS.out).mono ?_); rintro e w3 ⟨sv, rfl, h8, h9⟩; have hv3 := Lib.hid (rowB hv.out h9 bW2s.out); have hz3 := Lib.hid (rowB hz.out h9 (Nat.lt_trans hgz.out bW2s.out)); have hB3 := Lib.hid (hB2.out.trans (h9.mono hB2.out.size)); obtain ⟨sa, sc, hsv⟩ := h8.rd.slice; have hk3 := hkc.out w3 _ h8.rd; subst hsv; clear q0 q1 q2 q3 f0 f1 f2 f3 h9 h8; obtain ⟨⟨q0, q1, q2, q3⟩, f0, f1, f2, f3⟩ := four_of hv3.out)
          go_meet
          exact ⟨0, 0, SN, _, _, rfl, rfl, set_s hv3.out SN, (setCell_rows g5 3 _ _ hne.out).trans hz3.out, set_below hv3.out hB3.out hgB.out, hPt.out⟩
    · have k1 : (K == 1) = false := by simpa using h1
      have k2 : (K == 2) = false := by simpa using h2
      have k3 : (K == 3) = false := by simpa using h3
      have hPt := Lib.hid (part_other l K hdF h1 h2 h3)
      clear hsub0 hsub1 hbl hll hdF hlm1 h1 h2 h3
      go_wp2
      go_meet
      exact ⟨0, 0, ⟨#[]⟩, _, _, rfl, rfl, hv.out, hz.out, hB2.out, hPt.out⟩
  case rest =>
    rename_i hK
    refine hK _ _ ?_
    clear hK hc2 hcw hbr hv hz hB2 bW2s
    obtain ⟨N', b', s', U, E, rfl, rfl, e0, e1, e2, hPt⟩ := hcut
    have hv := Lib.hid e0
    have hz := Lib.hid e1
    have hS := Lib.hid e2
    have hCk := Lib.hid (fun w => rcheck_any K N' b' s' hk0.out hPt.hb hPt.hs w)
    obtain ⟨u1, u2⟩ := hPt.u
    have hRR := hR'.out.trans hPt.e
    have hNl := hN'.out
    rw [← hNl] at hRR
    clear e0 e1 e2 hPt hNl hR'
    by_cases hE : E = 0
    · have hEb : (E != 0) = false := by simpa using hE
      by_cases hU : U + 1 ≤ (N : Int)
      · have hUb : decide ((N : Int) < U + 1) = false := decide_eq_false (by omega)
        cases hvl : validV K N' b' s'
        · rw [hvl, if_neg (by simp)] at hRR
          rw [show chkE K N' b' s' = 8 by unfold chkE; rw [hvl]; rfl] at hCk
          have hRR := Lib.hid hRR
          clear hE hU hvl
          go_wp2_with (first | (go_at_call 118; (with_reducible refine (hCk.out _).mono ?_); rintro e w3 ⟨rfl, h9⟩; replace hv := Lib.hid (rowB hv.out h9 (Array.getElem?_eq_some_iff.1 hv.out).1); replace hz := Lib.hid (rowB hz.out h9 (Array.getElem?_eq_some_iff.1 hz.out).1); replace hS := Lib.hid (hS.out.trans (h9.mono hS.out.size)); clear h9) | (refine wpList_load_row_g rfl 26 _ rfl g5 rfl 26 (vC K N' b' s') (0, 0) _ hv.out Tryz.underlying26 rfl info_val ?_) | (refine storeOver _ w.heap.size _ rfl 26 _ _ rfl (vC 0 0 0 ⟨#[]⟩) 26 hz.out rfl rfl info_val rfl (val_one _ _ _ _) ?_; intro w9 hr9 hb9; have hr9' := Lib.hid hr9; have hb9' := Lib.hid hb9; clear hr9 hb9))
          exact bodyPost_ret (results_row_tmp2 rfl _ _ w.heap.size 26 _ _ _ rfl hr9'.out Tryz.underlying26 rfl info_val) rfl ⟨by rw [hRR.out]; rfl, hS.out.trans hb9'.out⟩
        · rw [if_pos ⟨hE, hU, hvl⟩] at hRR
          rw [show chkE K N' b' s' = 0 by unfold chkE; rw [hvl]; rfl] at hCk
          have hRR := Lib.hid hRR
          clear hE hU hvl
          go_wp2_with (first | (go_at_call 118; (with_reducible refine (hCk.out _).mono ?_); rintro e w3 ⟨rfl, h9⟩; replace hv := Lib.hid (rowB hv.out h9 (Array.getElem?_eq_some_iff.1 hv.out).1); replace hz := Lib.hid (rowB hz.out h9 (Array.getElem?_eq_some_iff.1 hz.out).1); replace hS := Lib.hid (hS.out.trans (h9.mono hS.out.size)); clear h9) | (refine wpList_load_row_g rfl 26 _ rfl g5 rfl 26 (vC K N' b' s') (0, 0) _ hv.out Tryz.underlying26 rfl info_val ?_) | (refine storeOver _ w.heap.size _ rfl 26 _ _ rfl (vC K N' b' s') 26 hz.out rfl rfl info_val rfl (val_one _ _ _ _) ?_; intro w9 hr9 hb9; have hr9' := Lib.hid hr9; have hb9' := Lib.hid hb9; clear hr9 hb9))
          exact bodyPost_ret (results_row_tmp2 rfl _ _ w.heap.size 26 _ _ _ rfl hr9'.out Tryz.underlying26 rfl info_val) rfl ⟨by rw [hRR.out]; rfl, hS.out.trans hb9'.out⟩
      · have hUb : decide ((N : Int) < U + 1) = true := decide_eq_true (by omega)
        rw [if_neg (fun h => hU h.2.1)] at hRR
        have hRR := Lib.hid hRR
        clear hE hU
        go_wp2_with (first | (go_at_call 118; (with_reducible refine (hCk.out _).mono ?_); rintro e w3 ⟨rfl, h9⟩; replace hv := Lib.hid (rowB hv.out h9 (Array.getElem?_eq_some_iff.1 hv.out).1); replace hz := Lib.hid (rowB hz.out h9 (Array.getElem?_eq_some_iff.1 hz.out).1); replace hS := Lib.hid (hS.out.trans (h9.mono hS.out.size)); clear h9) | (refine wpList_load_row_g rfl 26 _ rfl g5 rfl 26 (vC K N' b' s') (0, 0) _ hv.out Tryz.underlying26 rfl info_val ?_) | (refine storeOver _ w.heap.size _ rfl 26 _ _ rfl (vC 0 0 0 ⟨#[]⟩) 26 hz.out rfl rfl info_val rfl (val_one _ _ _ _) ?_; intro w9 hr9 hb9; have hr9' := Lib.hid hr9; have hb9' := Lib.hid hb9; clear hr9 hb9))
        exact bodyPost_ret (results_row_tmp2 rfl _ _ w.heap.size 26 _ _ _ rfl hr9'.out Tryz.underlying26 rfl info_val) rfl ⟨by rw [hRR.out]; rfl, hS.out.trans hb9'.out⟩
    · have hEb : (E != 0) = true := by simpa using hE
      rw [if_neg (fun h => hE h.1)] at hRR
      have hRR := Lib.hid hRR
      clear hE
      go_wp2_with (first | (go_at_call 118; (with_reducible refine (hCk.out _).mono ?_); rintro e w3 ⟨rfl, h9⟩; replace hv := Lib.hid (rowB hv.out h9 (Array.getElem?_eq_some_iff.1 hv.out).1); replace hz := Lib.hid (rowB hz.out h9 (Array.getElem?_eq_some_iff.1 hz.out).1); replace hS := Lib.hid (hS.out.trans (h9.mono hS.out.size)); clear h9) | (refine wpList_load_row_g rfl 26 _ rfl g5 rfl 26 (vC K N' b' s') (0, 0) _ hv.out Tryz.underlying26 rfl info_val ?_) | (refine storeOver _ w.heap.size _ rfl 26 _ _ rfl (vC 0 0 0 ⟨#[]⟩) 26 hz.out rfl rfl info_val rfl (val_one _ _ _ _) ?_; intro w9 hr9 hb9; have hr9' := Lib.hid hr9; have hb9' := Lib.hid hb9; clear hr9 hb9))
      exact bodyPost_ret (results_row_tmp2 rfl _ _ w.heap.size 26 _ _ _ rfl hr9'.out Tryz.underlying26 rfl info_val) rfl ⟨by rw [hRR.out]; rfl, hS.out.trans hb9'.out⟩
end Go.Proofs.YtoknefeciopdpaaGreatDoor.wir.val

/- Texts that the row stands on, part 12. -/
import Derived.Test.YtlbgffhipondiaaGreatDoorRClosedGq11
namespace Go.Proofs.YtlbgffhipondiaaGreatDoor.wir.val
open Go.RowKit Go.YtlbgffhipondiaaGreatDoor
set_option linter.unusedVariables false
theorem idF_takeG (F : List Int) (m i : Nat) (h : i < m) : idF (F.take (m * 32)) i = idF F i := by
  unfold idF
  rw [List.drop_take, List.take_take]
  congr 1
  omega
theorem idF_dropG (F : List Int) (m i : Nat) : idF (F.drop (m * 32)) i = idF F (m + i) := by
  unfold idF
  rw [List.drop_drop]
  congr 2
  omega
theorem idF_ins {F x : List Int} {n p : Nat} (hF : F.length = 32 * n) (hp : p ≤ n) (hx : x.length = 32) (k : Nat) : idF (insF F p x) k = if k < p then idF F k else if k = p then x else idF F (k - 1) := by
  have hl : (F.take (p * 32)).length = 32 * p := by rw [List.length_take]; omega
  unfold insF
  by_cases h1 : k < p
  · rw [if_pos h1, idF_app hl h1, idF_takeG F p k h1]
  · rw [if_neg h1]
    have e : idF (F.take (p * 32) ++ (x ++ F.drop (p * 32))) k = idF (x ++ F.drop (p * 32)) (k - p) := by
      unfold idF
      rw [List.drop_append, List.drop_eq_nil_of_le (by omega), List.nil_append]
      congr 2
      omega
    rw [e]
    by_cases h2 : k = p
    · rw [if_pos h2, h2, Nat.sub_self]
      unfold idF
      rw [Nat.mul_zero, List.drop_zero, List.take_append_of_le_length (by omega), List.take_of_length_le (by omega)]
    · rw [if_neg h2]
      have e2 : idF (x ++ F.drop (p * 32)) (k - p) = idF (F.drop (p * 32)) (k - p - 1) := by
        unfold idF
        rw [List.drop_append, List.drop_eq_nil_of_le (by omega), List.nil_append]
        congr 2
        omega
      rw [e2, idF_dropG]
      congr 1
      omega
theorem idF_ins_lo {F x : List Int} {n p : Nat} (hF : F.length = 32 * n) (hp : p ≤ n) (hx : x.length = 32) {k : Nat} (h : k < p) : idF (insF F p x) k = idF F k := by rw [idF_ins hF hp hx, if_pos h]
theorem idF_ins_at {F x : List Int} {n p : Nat} (hF : F.length = 32 * n) (hp : p ≤ n) (hx : x.length = 32) : idF (insF F p x) p = x := by rw [idF_ins hF hp hx, if_neg (Nat.lt_irrefl _), if_pos rfl]
theorem idF_ins_hi {F x : List Int} {n p : Nat} (hF : F.length = 32 * n) (hp : p ≤ n) (hx : x.length = 32) {k : Nat} (h : p ≤ k) : idF (insF F p x) (k + 1) = idF F k := by rw [idF_ins hF hp hx, if_neg (by omega), if_neg (by omega)]; rfl
/-- Where what was at k is behind the insertion. -/
def sh (p k : Nat) : Nat := if k < p then k else k + 1
theorem idF_sh {F x : List Int} {n p : Nat} (hF : F.length = 32 * n) (hp : p ≤ n) (hx : x.length = 32) (k : Nat) : idF (insF F p x) (sh p k) = idF F k := by
  unfold sh
  split
  · exact idF_ins_lo hF hp hx (by assumption)
  · exact idF_ins_hi hF hp hx (by omega)
theorem nthO_sh (L : List Od) (p : Nat) (o : Od) (hp : p ≤ L.length) (k : Nat) : nthO (insL L p o) (sh p k) = nthO L k := by
  rw [insL_at L p o hp]
  unfold sh
  by_cases h : k < p
  · rw [if_pos h, if_pos h]
  · rw [if_neg h, if_neg (by omega), if_neg (by omega)]; rfl
theorem nthO_ins_at (L : List Od) (p : Nat) (o : Od) (hp : p ≤ L.length) : nthO (insL L p o) p = o := by rw [insL_at L p o hp, if_neg (Nat.lt_irrefl _), if_pos rfl]
theorem sh_lt {p k n : Nat} (h : k < n) : sh p k < n + 1 := by unfold sh; split <;> omega
/-- Each place is that of what was put, or that of an older one. -/
theorem sh_cases (p k n : Nat) (hp : p ≤ n) (hk : k < n + 1) : k = p ∨ ∃ j, j < n ∧ k = sh p j := by
  rcases Nat.lt_trichotomy k p with h | h | h
  · exact .inr ⟨k, by omega, by unfold sh; rw [if_pos h]⟩
  · exact .inl h
  · exact .inr ⟨k - 1, by omega, by unfold sh; rw [if_neg (by omega)]; omega⟩
theorem cmp_pos_lt {a b : List Int} (h1 : ¬ cmpF a b < 0) (h2 : a ≠ b) : cmpF b a < 0 := by
  have h3 := cmp_anti a b
  rcases cmp_range a b with h | h | h
  · omega
  · exact absurd (cmp_zero _ _ h) h2
  · omega
theorem rise_atG {F : List Int} {n : Nat} (h : riseF F n = true) (i : Nat) (hi : i + 1 < n) : cmpF (idF F i) (idF F (i + 1)) < 0 := rise_lt h (Nat.lt_succ_self i) hi
theorem rise_ins {F x : List Int} {n p : Nat} (hF : F.length = 32 * n) (hx : x.length = 32) (hr : riseF F n = true) (hP : PlaceAt F n x p) (hm : memF F n x = false) : riseF (insF F p x) (n + 1) = true := by
  have hp := hP.le
  refine rise_yes fun i hi => ?_
  rcases Nat.lt_trichotomy (i + 1) p with h | h | h
  · rw [idF_ins_lo hF hp hx (by omega), idF_ins_lo hF hp hx h]
    exact rise_atG hr i (by omega)
  · rw [idF_ins_lo hF hp hx (by omega), h, idF_ins_at hF hp hx]
    exact hP.lo i (by omega)
  · rw [idF_ins_hi hF hp hx (k := i) (by omega)]
    by_cases h2 : i = p
    · rw [h2, idF_ins_at hF hp hx]
      refine cmp_pos_lt (hP.hi p (Nat.le_refl _) (by omega)) fun e => ?_
      rw [mem_iff.2 ⟨p, by omega, e⟩] at hm
      cases hm
    · obtain ⟨k, rfl⟩ : ∃ k, i = k + 1 := ⟨i - 1, by omega⟩
      rw [idF_ins_hi hF hp hx (k := k) (by omega)]
      exact rise_atG hr k (by omega)
theorem mem_ins {F x y : List Int} {n p : Nat} (hF : F.length = 32 * n) (hx : x.length = 32) (hp : p ≤ n) (h : memF F n y = true) : memF (insF F p x) (n + 1) y = true := by
  obtain ⟨k, h1, h2⟩ := mem_iff.1 h
  exact mem_iff.2 ⟨sh p k, sh_lt h1, by rw [idF_sh hF hp hx]; exact h2⟩
theorem all_ins {F x G : List Int} {n p m : Nat} (hF : F.length = 32 * n) (hx : x.length = 32) (hp : p ≤ n) (h : allF F n G m = true) : allF (insF F p x) (n + 1) G m = true :=
  all_iff.2 fun j hj => mem_ins hF hx hp (all_iff.1 h j hj)
theorem tk_sh {F x : List Int} {n p : Nat} {L : List Od} {o : Od} (hF : F.length = 32 * n) (hx : x.length = 32) (hp : p ≤ n) (hL : L.length = n) {i : Nat} (h : Tk F n L i) : Tk (insF F p x) (n + 1) (insL L p o) (sh p i) := by
  induction h with
  | mk i hi q h hq ih =>
    refine tk_of (by rw [insL_length L p o (by omega), hL]; exact sh_lt (by omega)) fun j hj => ?_
    rw [nthO_sh L p o (by omega)] at hj ⊢
    exact ⟨sh p (q j), sh_lt (hq j hj).1, ih j hj, by rw [idF_sh hF hp hx]; exact (hq j hj).2⟩
/-- What is put into a valid graph leaves it valid. -/
theorem chk_ins {F : List Int} {n p : Nat} {L : List Od} {o : Od} (hF : F.length = 32 * n) (h : ChkG F n L 0) (hv : verO o = 0) (hP : PlaceAt F n (shaF (encO o)) p) (hm : memF F n (shaF (encO o)) = false) (ha : allF F n o.F o.n = true) (h60 : L.length < 60) :
    ChkG (insF F p (shaF (encO o))) (n + 1) (insL L p o) 0 := by
  obtain ⟨k1, k2, k3, k4, k5⟩ := chkG_zero h
  obtain ⟨e1, e2⟩ := name_iff.1 k2
  have hp := hP.le
  have hx := shaF_length (encO o)
  have hl := insL_length L p o (by omega)
  refine .inr (.inr ⟨by omega, name_iff.2 ⟨by omega, fun i hi => ?_⟩, .inr (.inr (.inr ⟨rise_ins hF hx k3 hP hm, clos_iff.2 fun i hi => ?_, fun i hi => ?_, rfl⟩))⟩)
  · rcases sh_cases p i n hp (by omega) with rfl | ⟨j, hj, rfl⟩
    · rw [nthO_ins_at L i o (by omega), idF_ins_at hF hp hx]
      exact good_iff.2 ⟨hv, rfl⟩
    · rw [nthO_sh L p o (by omega), idF_sh hF hp hx]
      exact e2 j (by omega)
  · rcases sh_cases p i n hp (by omega) with rfl | ⟨j, hj, rfl⟩
    · rw [nthO_ins_at L i o (by omega)]
      exact all_ins hF hx hp ha
    · rw [nthO_sh L p o (by omega)]
      exact all_ins hF hx hp (clos_iff.1 k4 j (by omega))
  · rcases sh_cases p i n hp (by omega) with rfl | ⟨j, hj, rfl⟩
    · refine tk_of hi fun j hj => ?_
      rw [nthO_ins_at L i o (by omega)] at hj ⊢
      obtain ⟨k, h1, h2⟩ := mem_iff.1 (all_iff.1 ha j hj)
      exact ⟨sh i k, sh_lt h1, tk_sh hF hx hp e1.symm (k5 k (by omega)), by rw [idF_sh hF hp hx]; exact h2⟩
    · exact tk_sh hF hx hp e1.symm (k5 j (by omega))
end Go.Proofs.YtlbgffhipondiaaGreatDoor.wir.val
namespace Go.Proofs.YtlbgffhipondiaaGreatDoor.wir.val
open Go.RowKit Go.YtlbgffhipondiaaGreatDoor
set_option linter.unusedVariables false
/-- What a graph that is not great has. -/
def SmallG (n : Nat) (L : List Od) : Prop := (∀ i, i < L.length → greatB (nthO L i) = false) ∧ (L.length ≤ 16 ∨ 60 < L.length) ∧ L.length ≤ 70 ∧ n ≤ 70
def GrPost (n : Nat) (L : List Od) (w : World) (e : Ending) (w' : World) : Prop := ∃ b : Bool, e = .returned (.bool b) ∧ (b = false → SmallG n L) ∧ Below w.heap.size w w'
theorem gr_t {n : Nat} {L : List Od} {w w' : World} {e : Ending} (he : e = .returned (.bool true)) (hb : Below w.heap.size w w') : GrPost n L w e w' := ⟨true, he, fun h => (by cases h), hb⟩
theorem gr_f {n : Nat} {L : List Od} {w w' : World} {e : Ending} (he : e = .returned (.bool false)) (h : SmallG n L) (hb : Below w.heap.size w w') : GrPost n L w e w' := ⟨false, he, fun _ => h, hb⟩
set_option maxHeartbeats 8000000 in
set_option maxRecDepth 100000 in
theorem rGreatG_any (F : List Int) (n : Nat) (L : List Od) (iv ov : Value) (w : World) (hI : RdI w iv n F) (hO : RdO w ov L) :
    Calls Tryz.prog 28 #[.agg (gC iv ov)] w fun e w' => GrPost n L w e w' := by
  obtain ⟨ia, ic, rfl⟩ := hI.slice
  obtain ⟨oa, oc, rfl⟩ := hO.slice
  obtain ⟨m, hmL⟩ : ∃ m, L.length = m := ⟨_, rfl⟩
  have hm' := Lib.hid hmL
  rw [hmL] at hO ⊢
  obtain ⟨W, hW⟩ : ∃ W, W = w.alloc (.cells (gC (.slice ia n ic) (.slice oa m oc)) 41) := ⟨_, rfl⟩
  have hS := Lib.hid (show Below w.heap.size w W by rw [hW]; exact below_a w _)
  have r0 := Lib.hid (show W.heap[w.heap.size]? = some (.cells (gC (.slice ia n ic) (.slice oa m oc)) 41 (0, 0)) by rw [hW]; exact heap_alloc_new w _)
  have hrw := Lib.hid (fun (wz : World) (h : Below W.heap.size W wz) => rowB r0.out h (Array.getElem?_eq_some_iff.1 r0.out).1)
  have hc0 := Lib.hid (fun (wz : World) (h : Below W.heap.size W wz) => (show wz.cell? ⟨w.heap.size, 0, none⟩ = some (.slice ia n ic) by rw [cell_of_row _ _ _ _ _ _ (hrw.out wz h)]; rfl))
  have hc1 := Lib.hid (fun (wz : World) (h : Below W.heap.size W wz) => (show wz.cell? ⟨w.heap.size, 1, none⟩ = some (.slice oa m oc) by rw [cell_of_row _ _ _ _ _ _ (hrw.out wz h)]; rfl))
  have hO' := Lib.hid hO
  have hI9 : True := trivial
  clear hI hO hmL
  go_enter Tryz.func28, Tryz.ntmps28
  go_upto_region 1 with fail
  rw [← hW]
  clear hW
  go_wp2
  go_loopw [3] (fun i wr => ∃ k : Nat, k ≤ m ∧ k ≤ 71 ∧ i = .int .i64 (k : Int) ∧ Below W.heap.size W wr ∧ ∀ j, j < k → greatB (nthO L j) = false) (fun i _ => m - (intOf i).toNat)
  case atStart => exact ⟨0, Nat.zero_le _, by omega, rfl, Below.refl _ _, fun j hj => absurd hj (Nat.not_lt_zero _)⟩
  case round =>
    obtain ⟨k, hk, hk71, rfl, hb, he⟩ := hrel
    have hng := Lib.hid he; have hb' := Lib.hid hb
    have c1 : wr.cell? ⟨w.heap.size, 1, none⟩ = some (.slice oa m oc) := hc1.out wr hb
    have c0 : wr.cell? ⟨w.heap.size, 0, none⟩ = some (.slice ia n ic) := hc0.out wr hb
    have hbS := Lib.hid (hS.out.trans (hb.mono hS.out.size))
    clear he hb
    by_cases hlt : k < m
    · have hkI : (k : Int) < (m : Int) := by omega
      have hkD := decide_eq_true hkI
      by_cases h70 : k ≤ 70
      · have h7I : (k : Int) ≤ 70 := by omega
        have h7D := decide_eq_true h7I
        obtain ⟨b, o, pa, pc, rfl, hbw, hnc, q1, q2⟩ := rdO_at hO'.out hm'.out hbS.out k hlt
        have q1' := Lib.hid q1
        have hG := Lib.hid (great_any (nthO L k) pa pc wr)
        have hnx := Lib.hid (fun (h : greatB (nthO L k) = false) => (show ∀ j, j < k + 1 → greatB (nthO L j) = false from fun j hj => by
          rcases Nat.lt_or_ge j k with h1 | h1
          · exact hng.out j h1
          · obtain rfl : j = k := by omega
            exact h))
        clear q1 q2
        generalize greatB (nthO L k) = GB at *
        generalize nthO L k = od at *
        have i1 : Hid ((Tryz.prog.info? 35).map (·.size) = some (od.c (.slice pa od.n pc)).toList.length) := Lib.hid info_op
        cases GB with
        | true =>
          go_wp2_with (first
            | (refine wpList_load_mid_g rfl 35 _ rfl b (o + k * 11) rfl (od.c (.slice pa od.n pc)) _ q1'.out Tryz.underlying35 rfl i1.out ?_)
            | (go_at_call 29; (with_reducible refine (hG.out).mono ?_); rintro e9 w4 ⟨rfl, z2⟩; have hB4 := Lib.hid (hb'.out.trans (z2.mono hb'.out.size)); clear z2))
          go_ret
          exact gr_t rfl (hS.out.trans (hB4.out.mono hS.out.size))
        | false =>
          go_wp2_with (first
            | (refine wpList_load_mid_g rfl 35 _ rfl b (o + k * 11) rfl (od.c (.slice pa od.n pc)) _ q1'.out Tryz.underlying35 rfl i1.out ?_)
            | (go_at_call 29; (with_reducible refine (hG.out).mono ?_); rintro e9 w4 ⟨rfl, z2⟩; have hB4 := Lib.hid (hb'.out.trans (z2.mono hb'.out.size)); clear z2))
          go_roundw
          case rel => exact ⟨k + 1, by omega, by omega, by go_num, hB4.out, hnx.out trivial⟩
          case measure => simp [intOf]; omega
      · have h7I : ¬ (k : Int) ≤ 70 := by omega
        have h16 : (16 : Int) < (m : Int) := by omega
        have h60 : ¬ (m : Int) ≤ 60 := by omega
        have h70b : (70 : Int) < (m : Int) := by omega
        have d1 := decide_eq_false h7I
        have d2 := decide_eq_true h16
        have d3 := decide_eq_false h60
        have d4 := decide_eq_true h70b
        go_wp2
        go_ret
        exact gr_t rfl (hS.out.trans (hb'.out.mono hS.out.size))
    · obtain rfl : k = m := by omega
      have hkI : ¬ (k : Int) < (k : Int) := by omega
      have hkD := decide_eq_false hkI
      have hsm := Lib.hid (fun (h1 : L.length ≤ 16 ∨ 60 < L.length) (h2 : L.length ≤ 70) (h3 : n ≤ 70) => (show SmallG n L from ⟨fun i hi => hng.out i (by have := hm'.out; omega), h1, h2, h3⟩))
      rw [hm'.out] at hsm
      by_cases h16 : (16 : Int) < (k : Int)
      · have d2 := decide_eq_true h16
        by_cases h60 : (k : Int) ≤ 60
        · have d3 := decide_eq_true h60
          go_wp2
          go_ret
          exact gr_t rfl (hS.out.trans (hb'.out.mono hS.out.size))
        · have d3 := decide_eq_false h60
          by_cases h70 : (70 : Int) < (k : Int)
          · have d4 := decide_eq_true h70
            go_wp2
            go_ret
            exact gr_t rfl (hS.out.trans (hb'.out.mono hS.out.size))
          · have d4 := decide_eq_false h70
            by_cases hn7 : (70 : Int) < (n : Int)
            · have d5 := decide_eq_true hn7
              go_wp2
              go_ret
              exact gr_t rfl (hS.out.trans (hb'.out.mono hS.out.size))
            · have d5 := decide_eq_false hn7
              have hh := Lib.hid (hsm.out (.inr (by omega)) (by omega) (by omega))
              go_wp2
              go_ret
              exact gr_f rfl hh.out (hS.out.trans (hb'.out.mono hS.out.size))
      · have d2 := decide_eq_false h16
        have h70 : ¬ (70 : Int) < (k : Int) := by omega
        have d4 := decide_eq_false h70
        by_cases hn7 : (70 : Int) < (n : Int)
        · have d5 := decide_eq_true hn7
          go_wp2
          go_ret
          exact gr_t rfl (hS.out.trans (hb'.out.mono hS.out.size))
        · have d5 := decide_eq_false hn7
          have hh := Lib.hid (hsm.out (.inl (by omega)) (by omega) (by omega))
          go_wp2
          go_ret
          exact gr_f rfl hh.out (hS.out.trans (hb'.out.mono hS.out.size))
end Go.Proofs.YtlbgffhipondiaaGreatDoor.wir.val
namespace Go.Proofs.YtlbgffhipondiaaGreatDoor.wir.val
open Go.RowKit Go.YtlbgffhipondiaaGreatDoor
set_option linter.unusedVariables false
theorem qa_load_midS {P : Program} {C : World → Prop} {o : Oper} {a : Act} (ty : TypeId) (x : Operand) (ho : o.op = .load ty x) (b off : Nat) (hx : a.eval x = .pointer (some ⟨b, off, none⟩)) (cs : Array Value) (d : TypeDesc)
    (hu : P.underlying ty = some d) (hd : d.isRow = true) (hi : (P.info? ty).map (·.size) = some cs.toList.length) (hS : ∀ w, C w → w.rangeAt b off cs.toList) : ∀ w, C w → o.quietAt P a C w (.agg cs) := fun w hw => qa_ok (by
  unfold execOp
  simp only [ho, hx, Instr.loadAt, Instr.sureAddr, Sem.run_bind, Sem.run_pure, Result.andThen_ok, run_loadVar_mid w b off ty cs.toList d (hS w hw) hu hd hi])
set_option maxHeartbeats 16000000 in
set_option maxRecDepth 100000 in
theorem rCheckG_any (F : List Int) (n : Nat) (L : List Od) (iv ov : Value) (e0 : Int) (w : World) (hI : RdI w iv n F) (hF : Bytes F) (hO : RdO w ov L) (hn0 : n ≤ 10000) (hm : L.length ≤ 10000)
    (hfit : ∀ i, i < L.length → (nthO L i).Fit) (he0 : ChkG F n L e0) :
    Calls Tryz.prog 62 #[.agg (gC iv ov)] w fun e w' => e = .returned (.int .i64 e0) ∧ Below w.heap.size w w' := by
  have hlen := Lib.hid hI.len
  obtain ⟨ia, ic, rfl⟩ := hI.slice
  obtain ⟨oa, oc, rfl⟩ := hO.slice
  obtain ⟨m, hmL⟩ : ∃ m, L.length = m := ⟨_, rfl⟩
  have hm' := Lib.hid hmL
  obtain ⟨W, hW⟩ : ∃ W, W = w.alloc (.cells (gC (.slice ia n ic) (.slice oa L.length oc)) 41) := ⟨_, rfl⟩
  have hS := Lib.hid (show Below w.heap.size w W by rw [hW]; exact below_a w _)
  have r0 := Lib.hid (show W.heap[w.heap.size]? = some (.cells (gC (.slice ia n ic) (.slice oa L.length oc)) 41 (0, 0)) by rw [hW]; exact heap_alloc_new w _)
  have hsh := Lib.hid (fun (h : LinkG F n L e0) (h2 : L.length = n) (wz : World) (hb : Below W.heap.size W wz) => rshape_any F n L (.slice ia n ic) (.slice oa L.length oc) e0 wz ((hI.mono hS.out).mono hb) hF ((hO.mono hS.out).mono hb) h2 hn0 (fun i hi => (hfit i (by omega)).n) h)
  rw [hmL] at hO r0 hW hfit hm hsh
  rw [hmL]
  have hrw := Lib.hid (fun (wz : World) (h : Below W.heap.size W wz) => rowB r0.out h (Array.getElem?_eq_some_iff.1 r0.out).1)
  have hc0 := Lib.hid (fun (wz : World) (h : Below W.heap.size W wz) => (show wz.cell? ⟨w.heap.size, 0, none⟩ = some (.slice ia n ic) by rw [cell_of_row _ _ _ _ _ _ (hrw.out wz h)]; rfl))
  have hc1 := Lib.hid (fun (wz : World) (h : Below W.heap.size W wz) => (show wz.cell? ⟨w.heap.size, 1, none⟩ = some (.slice oa m oc) by rw [cell_of_row _ _ _ _ _ _ (hrw.out wz h)]; rfl))
  have hI' := Lib.hid hI; have hO' := Lib.hid hO; have hfit' := Lib.hid hfit
  have cW0 : W.cell? ⟨w.heap.size, 0, none⟩ = some (.slice ia n ic) := hc0.out W (Below.refl _ _)
  have cW1 : W.cell? ⟨w.heap.size, 1, none⟩ = some (.slice oa m oc) := hc1.out W (Below.refl _ _)
  unfold ChkG at he0
  rw [hmL] at he0
  have hnf := Lib.hid (fun i hi h => name_false (F := F) (n := n) (L := L) i hi h)
  have hni := Lib.hid (fun h => (name_iff (F := F) (n := n) (L := L)).2 h)
  rw [hmL] at hnf hni
  have he' := Lib.hid he0
  clear hI hO hfit hF he0 hmL
  by_cases h60 : 60 < m
  · have h6I : (60 : Int) < (m : Int) := by omega
    have he4 := Lib.hid (show e0 = 4 by
      rcases he'.out with ⟨_, h⟩ | ⟨h, _⟩ | ⟨h, _⟩
      · exact h
      · omega
      · omega)
    go_enter Tryz.func62, Tryz.ntmps62
    go_upto_region 1 with fail
    rw [← hW]
    clear hW
    go_wp2
    go_ret
    exact ⟨by rw [he4.out]; try rfl, hS.out⟩
  · have h6I : ¬ (60 : Int) < (m : Int) := by omega
    have he8 := Lib.hid (fun (h : nameB F n L = false) => (show e0 = 8 by
      rcases he'.out with ⟨h1, _⟩ | ⟨_, _, h1⟩ | ⟨_, h1, _⟩
      · omega
      · exact h1
      · rw [h] at h1; cases h1))
    by_cases hnm : n = m
    · subst hnm
      have hnI : ((n : Int) != (n : Int)) = false := by simp
      go_enter Tryz.func62, Tryz.ntmps62
      go_upto_region 1 with fail
      rw [← hW]
      clear hW
      go_wp2
      clear cW0 cW1
      go_loopw [3] (fun i wr => ∃ k : Nat, k ≤ n ∧ i = .int .i64 (k : Int) ∧ Below W.heap.size W wr ∧ ∀ j, j < k → goodB (nthO L j) (idF F j) = true) (fun i _ => n - (intOf i).toNat)
      case atStart => exact ⟨0, Nat.zero_le _, rfl, Below.refl _ _, fun j hj => absurd hj (Nat.not_lt_zero _)⟩
      case round =>
        obtain ⟨k, hk, rfl, hb, he⟩ := hrel
        have hgd := Lib.hid he; have hb' := Lib.hid hb
        have c1 : wr.cell? ⟨w.heap.size, 1, none⟩ = some (.slice oa n oc) := hc1.out wr hb
        clear he hb
        by_cases hlt : k < n
        · have hbS := Lib.hid (hS.out.trans (hb'.out.mono hS.out.size))
          obtain ⟨b, o, pa, pc, rfl, hbw, hnc, q1, q2⟩ := rdO_at hO'.out hm'.out hbS.out k hlt
          obtain ⟨b2, o2, rfl, hbw2, hnc2, q3, _⟩ := rdI_at hI'.out hbS.out k hlt
          have hbl := Lib.hid (Nat.lt_of_lt_of_le hbw hbS.out.size)
          have hbl2 := Lib.hid (Nat.lt_of_lt_of_le hbw2 hbS.out.size)
          have k0 := Lib.hid (fun (wz : World) (h : Below wr.heap.size wr wz) => hc0.out wz (hb'.out.trans (h.mono hb'.out.size)))
          have k1 := Lib.hid (fun (wz : World) (h : Below wr.heap.size wr wz) => hc1.out wz (hb'.out.trans (h.mono hb'.out.size)))
          have l1 := Lib.hid (idF_length F n k hlen.out hlt)
          have hft := Lib.hid (hfit'.out k hlt)
          have hno := Lib.hid (fun (h : goodB (nthO L k) (idF F k) = false) => he8.out (hnf.out k hlt h))
          have hyes := Lib.hid (fun (h : goodB (nthO L k) (idF F k) = true) => (show ∀ j, j < k + 1 → goodB (nthO L j) (idF F j) = true from fun j hj => by
            rcases Nat.lt_or_ge j k with h1 | h1
            · exact hgd.out j h1
            · obtain rfl : j = k := by omega
              exact h))
          have hkI : (k : Int) < (n : Int) := by omega
          have q1' := Lib.hid (fun (wz : World) (h : Below wr.heap.size wr wz) => range_below q1 hbl.out h)
          have q3' := Lib.hid (fun (wz : World) (h : Below wr.heap.size wr wz) => range_below q3 hbl2.out h)
          have q2' := Lib.hid (fun (wz : World) (h : Below wr.heap.size wr wz) => q2.mono h)
          clear q1 q2 q3 hnf hfit' he8
          generalize idF F k = A at *
          generalize nthO L k = od at *
          have hv := Lib.hid (fun (wz : World) (h : Below wr.heap.size wr wz) => rVerify_any od hft.out (.slice pa od.n pc) wz (q2'.out wz h))
          have hof := Lib.hid (fun (h0 : verO od = 0) (wz : World) (h : Below wr.heap.size wr wz) => rOfO_any od hft.out (chk_zero (ver_chk h0)).1 (chk_zero (ver_chk h0)).2.2 (.slice pa od.n pc) wz (q2'.out wz h))
          have hgood : goodB od A = (decide (verO od = 0) && decide (shaF (encO od) = A)) := rfl
          rw [hgood] at hno hyes
          have hD := Lib.hid (shaF_length (encO od))
          have i1 : Hid ((Tryz.prog.info? 35).map (·.size) = some (od.c (.slice pa od.n pc)).toList.length) := Lib.hid info_op
          have iA : Hid ((Tryz.prog.info? 24).map (·.size) = some (idV A).length) := Lib.hid (by rw [idV_length, l1.out]; kernel_rfl)
          clear hgood hft
          generalize shaF (encO od) = D at *
          by_cases hv0 : verO od = 0
          · have hof2 := Lib.hid (hof.out hv0)
            rw [hv0] at hv
            rw [decide_eq_true hv0, Bool.true_and] at hno hyes
            clear hof
            obtain ⟨R, hR0⟩ : ∃ R, decide (D = A) = R := ⟨_, rfl⟩
            have hR := Lib.hid (show (!decide (D = A)) = !R by rw [hR0])
            rw [hR0] at hno hyes
            clear hR0 hv0
            cases R with
            | true =>
              go_upto_region 8 with fail
              refine wp_region_quiet (C := fun w' => Below wr.heap.size wr w') (by kernel_rfl) (by kernel_rfl) ((Below.refl _ _).drew) ?_
              simp only []
              (go_big_quiet_want; go_big_quiet_op; first | go_big_quiet_on | (refine ⟨_, fun _ _ => rfl, ?_⟩; go_big_quiet_on))
              refine wpq (.slice (some ⟨b, o, none⟩) n oc) rfl (quiet_cell 22 _ rfl w.heap.size 1 rfl (.slice (some ⟨b, o, none⟩) n oc) k1.out Tryz.isAgg22) rfl (fun K hK => ?_); go_simp; refine hK _ ?_; clear hK K
              iterate 2 (go_big_quiet_want; go_big_quiet_op; first | go_big_quiet_on | (refine ⟨_, fun _ _ => rfl, ?_⟩; go_big_quiet_on))
              refine wpq (.agg (od.c (.slice pa od.n pc))) rfl (qa_load_midS 35 _ rfl b (o + k * 11) rfl (od.c (.slice pa od.n pc)) _ Tryz.underlying35 rfl i1.out q1'.out) rfl (fun K hK => ?_); go_simp; refine hK _ ?_; clear hK K
              refine wpq (.int .i64 0) rfl (qa_call1 (.agg (od.c (.slice pa od.n pc))) rfl Tryz.func83 (by kernel_rfl) rfl rfl rfl (fun w9 h => (hv.out w9 h).mono fun e w' ⟨he, hd⟩ => ⟨he, h.trans (hd.mono h.size)⟩)) rfl (fun K hK => ?_); go_simp; refine hK _ ?_; clear hK K
              iterate 3 (go_big_quiet_want; go_big_quiet_op; first | go_big_quiet_on | (refine ⟨_, fun _ _ => rfl, ?_⟩; go_big_quiet_on))
              refine wpq (.slice (some ⟨b, o, none⟩) n oc) rfl (quiet_cell 22 _ rfl w.heap.size 1 rfl (.slice (some ⟨b, o, none⟩) n oc) k1.out Tryz.isAgg22) rfl (fun K hK => ?_); go_simp; refine hK _ ?_; clear hK K
              iterate 2 (go_big_quiet_want; go_big_quiet_op; first | go_big_quiet_on | (refine ⟨_, fun _ _ => rfl, ?_⟩; go_big_quiet_on))
              refine wpq (.agg (od.c (.slice pa od.n pc))) rfl (qa_load_midS 35 _ rfl b (o + k * 11) rfl (od.c (.slice pa od.n pc)) _ Tryz.underlying35 rfl i1.out q1'.out) rfl (fun K hK => ?_); go_simp; refine hK _ ?_; clear hK K
              refine wpq (.agg (u8s D)) rfl (qa_call1 (.agg (od.c (.slice pa od.n pc))) rfl Tryz.func84 (by kernel_rfl) rfl rfl rfl (fun w9 h => (hof2.out w9 h).mono fun e w' ⟨he, hd⟩ => ⟨he, h.trans (hd.mono h.size)⟩)) rfl (fun K hK => ?_); go_simp; refine hK _ ?_; clear hK K
              (go_big_quiet_want; go_big_quiet_op; first | go_big_quiet_on | (refine ⟨_, fun _ _ => rfl, ?_⟩; go_big_quiet_on))
              refine wpq (.slice (some ⟨b2, o2, none⟩) n ic) rfl (quiet_cell 26 _ rfl w.heap.size 0 rfl (.slice (some ⟨b2, o2, none⟩) n ic) k0.out Tryz.isAgg26) rfl (fun K hK => ?_); go_simp; refine hK _ ?_; clear hK K
              iterate 2 (go_big_quiet_want; go_big_quiet_op; first | go_big_quiet_on | (refine ⟨_, fun _ _ => rfl, ?_⟩; go_big_quiet_on))
              refine wpq (.agg (u8s A)) rfl (qa_load_mid 24 _ rfl b2 (o2 + k * 32) rfl A _ Tryz.underlying24 rfl iA.out q3'.out) rfl (fun K hK => ?_); go_simp; refine hK _ ?_; clear hK K
              refine wpq (.bool false) rfl (qa_neqI _ _ D A hD.out l1.out false hR.out rfl rfl rfl) rfl (fun K hK => ?_); go_simp; refine hK _ ?_; clear hK K
              (go_big_quiet_want; go_big_quiet_op; first | go_big_quiet_on | (refine ⟨_, fun _ _ => rfl, ?_⟩; go_big_quiet_on))
              refine wpQuiet_nil ?_
              intro w2 h2
              have hB2 := Lib.hid (hb'.out.trans (h2.mono hb'.out.size))
              clear h2
              go_wp2
              go_roundw
              case rel => exact ⟨k + 1, by omega, by go_num, hB2.out, hyes.out rfl⟩
              case measure => simp [intOf]; omega
            | false =>
              go_upto_region 8 with fail
              refine wp_region_quiet (C := fun w' => Below wr.heap.size wr w') (by kernel_rfl) (by kernel_rfl) ((Below.refl _ _).drew) ?_
              simp only []
              (go_big_quiet_want; go_big_quiet_op; first | go_big_quiet_on | (refine ⟨_, fun _ _ => rfl, ?_⟩; go_big_quiet_on))
              refine wpq (.slice (some ⟨b, o, none⟩) n oc) rfl (quiet_cell 22 _ rfl w.heap.size 1 rfl (.slice (some ⟨b, o, none⟩) n oc) k1.out Tryz.isAgg22) rfl (fun K hK => ?_); go_simp; refine hK _ ?_; clear hK K
              iterate 2 (go_big_quiet_want; go_big_quiet_op; first | go_big_quiet_on | (refine ⟨_, fun _ _ => rfl, ?_⟩; go_big_quiet_on))
              refine wpq (.agg (od.c (.slice pa od.n pc))) rfl (qa_load_midS 35 _ rfl b (o + k * 11) rfl (od.c (.slice pa od.n pc)) _ Tryz.underlying35 rfl i1.out q1'.out) rfl (fun K hK => ?_); go_simp; refine hK _ ?_; clear hK K
              refine wpq (.int .i64 0) rfl (qa_call1 (.agg (od.c (.slice pa od.n pc))) rfl Tryz.func83 (by kernel_rfl) rfl rfl rfl (fun w9 h => (hv.out w9 h).mono fun e w' ⟨he, hd⟩ => ⟨he, h.trans (hd.mono h.size)⟩)) rfl (fun K hK => ?_); go_simp; refine hK _ ?_; clear hK K
              iterate 3 (go_big_quiet_want; go_big_quiet_op; first | go_big_quiet_on | (refine ⟨_, fun _ _ => rfl, ?_⟩; go_big_quiet_on))
              refine wpq (.slice (some ⟨b, o, none⟩) n oc) rfl (quiet_cell 22 _ rfl w.heap.size 1 rfl (.slice (some ⟨b, o, none⟩) n oc) k1.out Tryz.isAgg22) rfl (fun K hK => ?_); go_simp; refine hK _ ?_; clear hK K
              iterate 2 (go_big_quiet_want; go_big_quiet_op; first | go_big_quiet_on | (refine ⟨_, fun _ _ => rfl, ?_⟩; go_big_quiet_on))
              refine wpq (.agg (od.c (.slice pa od.n pc))) rfl (qa_load_midS 35 _ rfl b (o + k * 11) rfl (od.c (.slice pa od.n pc)) _ Tryz.underlying35 rfl i1.out q1'.out) rfl (fun K hK => ?_); go_simp; refine hK _ ?_; clear hK K
              refine wpq (.agg (u8s D)) rfl (qa_call1 (.agg (od.c (.slice pa od.n pc))) rfl Tryz.func84 (by kernel_rfl) rfl rfl rfl (fun w9 h => (hof2.out w9 h).mono fun e w' ⟨he, hd⟩ => ⟨he, h.trans (hd.mono h.size)⟩)) rfl (fun K hK => ?_); go_simp; refine hK _ ?_; clear hK K
              (go_big_quiet_want; go_big_quiet_op; first | go_big_quiet_on | (refine ⟨_, fun _ _ => rfl, ?_⟩; go_big_quiet_on))
              refine wpq (.slice (some ⟨b2, o2, none⟩) n ic) rfl (quiet_cell 26 _ rfl w.heap.size 0 rfl (.slice (some ⟨b2, o2, none⟩) n ic) k0.out Tryz.isAgg26) rfl (fun K hK => ?_); go_simp; refine hK _ ?_; clear hK K
              iterate 2 (go_big_quiet_want; go_big_quiet_op; first | go_big_quiet_on | (refine ⟨_, fun _ _ => rfl, ?_⟩; go_big_quiet_on))
              refine wpq (.agg (u8s A)) rfl (qa_load_mid 24 _ rfl b2 (o2 + k * 32) rfl A _ Tryz.underlying24 rfl iA.out q3'.out) rfl (fun K hK => ?_); go_simp; refine hK _ ?_; clear hK K
              refine wpq (.bool true) rfl (qa_neqI _ _ D A hD.out l1.out true hR.out rfl rfl rfl) rfl (fun K hK => ?_); go_simp; refine hK _ ?_; clear hK K
              (go_big_quiet_want; go_big_quiet_op; first | go_big_quiet_on | (refine ⟨_, fun _ _ => rfl, ?_⟩; go_big_quiet_on))
              refine wpQuiet_nil ?_
              intro w2 h2
              have hB2 := Lib.hid (hb'.out.trans (h2.mono hb'.out.size))
              clear h2
              go_wp2
              have hh := Lib.hid (hno.out trivial)
              go_ret
              exact ⟨by rw [hh.out]; try rfl, hS.out.trans (hB2.out.mono hS.out.size)⟩
          · have hh := Lib.hid (hno.out (by rw [decide_eq_false hv0]; rfl))
            have hv1 : (verO od != 0) = true := by simpa using hv0
            clear hno hyes hof
            generalize verO od = VE at *
            go_upto_region 8 with fail
            refine wp_region_quiet (C := fun w' => Below wr.heap.size wr w') (by kernel_rfl) (by kernel_rfl) ((Below.refl _ _).drew) ?_
            simp only []
            (go_big_quiet_want; go_big_quiet_op; first | go_big_quiet_on | (refine ⟨_, fun _ _ => rfl, ?_⟩; go_big_quiet_on))
            refine wpq (.slice (some ⟨b, o, none⟩) n oc) rfl (quiet_cell 22 _ rfl w.heap.size 1 rfl (.slice (some ⟨b, o, none⟩) n oc) k1.out Tryz.isAgg22) rfl (fun K hK => ?_); go_simp; refine hK _ ?_; clear hK K
            iterate 2 (go_big_quiet_want; go_big_quiet_op; first | go_big_quiet_on | (refine ⟨_, fun _ _ => rfl, ?_⟩; go_big_quiet_on))
            refine wpq (.agg (od.c (.slice pa od.n pc))) rfl (qa_load_midS 35 _ rfl b (o + k * 11) rfl (od.c (.slice pa od.n pc)) _ Tryz.underlying35 rfl i1.out q1'.out) rfl (fun K hK => ?_); go_simp; refine hK _ ?_; clear hK K
            refine wpq (.int .i64 VE) rfl (qa_call1 (.agg (od.c (.slice pa od.n pc))) rfl Tryz.func83 (by kernel_rfl) rfl rfl rfl (fun w9 h => (hv.out w9 h).mono fun e w' ⟨he, hd⟩ => ⟨he, h.trans (hd.mono h.size)⟩)) rfl (fun K hK => ?_); go_simp; refine hK _ ?_; clear hK K
            iterate 2 (go_big_quiet_want; go_big_quiet_op; first | go_big_quiet_on | (refine ⟨_, fun _ _ => rfl, ?_⟩; go_big_quiet_on))
            iterate 12 go_big_quiet_skip
            (go_big_quiet_want; go_big_quiet_op; first | go_big_quiet_on | (refine ⟨_, fun _ _ => rfl, ?_⟩; go_big_quiet_on))
            refine wpQuiet_nil ?_
            intro w2 h2
            have hB2 := Lib.hid (hb'.out.trans (h2.mono hb'.out.size))
            clear h2
            go_wp2
            go_ret
            exact ⟨by rw [hh.out]; try rfl, hS.out.trans (hB2.out.mono hS.out.size)⟩
        · obtain rfl : k = n := by omega
          have hname := hni.out ⟨trivial, hgd.out⟩
          have hlk : LinkG F k L e0 := by
            rcases he'.out with ⟨h1, _⟩ | ⟨_, h1, _⟩ | ⟨_, _, h1⟩
            · omega
            · rw [hname] at h1; cases h1
            · exact h1
          have hsh2 := Lib.hid (hsh.out hlk trivial wr hb'.out)
          have rg := Lib.hid (hrw.out wr hb'.out)
          clear hname hlk
          go_wp2_with (first
            | (refine wpList_load_row_g rfl 41 _ rfl w.heap.size rfl 41 (gC (.slice ia k ic) (.slice oa k oc)) (0, 0) _ rg.out Tryz.underlying41 rfl info_g ?_)
            | (go_at_call 86; (with_reducible refine (hsh2.out).mono ?_); rintro e9 w5 ⟨rfl, z2⟩; have hB5 := Lib.hid (hb'.out.trans (z2.mono hb'.out.size)); clear z2))
          go_ret
          exact ⟨rfl, hS.out.trans (hB5.out.mono hS.out.size)⟩
    · have hnI : ((n : Int) != (m : Int)) = true := by simp; omega
      have hh := Lib.hid (he8.out (name_size (by have := hm'.out; omega)))
      go_enter Tryz.func62, Tryz.ntmps62
      go_upto_region 1 with fail
      rw [← hW]
      clear hW
      go_wp2
      go_ret
      exact ⟨by rw [hh.out]; try rfl, hS.out⟩
end Go.Proofs.YtlbgffhipondiaaGreatDoor.wir.val
namespace Go.Proofs.YtlbgffhipondiaaGreatDoor.wir.val
open Go.RowKit Go.YtlbgffhipondiaaGreatDoor
set_option linter.unusedVariables false
theorem rAt_pos (F : List Int) (n : Nat) (v : Value) (x : List Int) (p : Nat) (w : World) (hr : RdI w v n F) (hn : n ≤ 100000) (hx : x.length = 32) (hri : riseF F n = true) (hp : p < n) (hpx : idF F p = x) :
    Calls Tryz.prog 37 #[v, .agg (u8s x)] w fun e w' => e = .returned (.int .i64 (p : Int)) ∧ Below w.heap.size w w' := by
  refine (rAt_any F n v x w hr hn hx).mono ?_
  rintro e w' ⟨r, h1, h2, h3⟩
  obtain ⟨k, hk, hkn, hke⟩ := atIs_pos h1 (mem_iff.2 ⟨p, hp, hpx⟩)
  have : k = p := rise_inj hri hkn hp (hke.trans hpx.symm)
  subst this
  exact ⟨by rw [h2, hk], h3⟩
end Go.Proofs.YtlbgffhipondiaaGreatDoor.wir.val
namespace Go.Proofs.YtlbgffhipondiaaGreatDoor.wir.val
open Go.RowKit Go.YtlbgffhipondiaaGreatDoor
set_option linter.unusedVariables false
theorem small_n {o : Od} (h : greatB o = false) : o.n ≤ 20 := by
  unfold greatB at h
  rw [Bool.or_eq_false_iff, decide_eq_false_iff_not] at h
  omega
set_option maxHeartbeats 2000000 in
set_option maxRecDepth 100000 in
theorem dagNew_any (w : World) : Calls Tryz.prog 19 #[] w fun e w' => e = .returned (.agg #[.slice none 0 0, .slice none 0 0]) ∧ Below w.heap.size w w' := by
  go_enter Tryz.func19, Tryz.ntmps19
  go_wp2
  exact bodyPost_ret (results_cell_row rfl _ _ w.heap.size 41 _ _ _ rfl (heap_alloc_new w _) Tryz.underlying41 rfl info_g) rfl ⟨rfl, below_a w _⟩
end Go.Proofs.YtlbgffhipondiaaGreatDoor.wir.val
namespace Go.Proofs.YtlbgffhipondiaaGreatDoor.wir.val
open Go.RowKit Go.YtlbgffhipondiaaGreatDoor
set_option linter.unusedVariables false
/-- What is signed: behind n operations, with the stamp 1 and no act. -/
def b9 (n : Nat) (F : List Int) : Od := ⟨0, n, F, 1, 1, ⟨#[]⟩, ⟨0, 0, 0, ⟨#[]⟩⟩, 0, 0⟩
def s9 (a n : Nat) (F : List Int) : Od := (b9 n F).sigd (grp.pw 4 a) (eN a (msgB ((b9 n F).byA (grp.pw 4 a)))) (sN a (msgB ((b9 n F).byA (grp.pw 4 a))))
theorem b9_fit (n : Nat) (F : List Int) (hF : Bytes F) (hn : n ≤ 1) : (b9 n F).Fit :=
  ⟨show 0 < 4294967296 by decide, hF, show n ≤ 100000 by omega, show 1 < 18446744073709551616 by decide, show (0 : Int) ≤ 1 ∧ (1 : Int) < 256 by decide, show (⟨#[]⟩ : ByteArray).size ≤ 1000000 by decide, (⟨by decide, by decide, by decide, by decide⟩ : (⟨0, 0, 0, ⟨#[]⟩⟩ : Va).fit), show 0 < 4294967296 by decide, show 0 < 4294967296 by decide⟩
theorem b9_ok2 : (decide (((1 : Nat) : Int) ≤ 1000000000000) && actB 1 ⟨#[]⟩ ⟨0, 0, 0, ⟨#[]⟩⟩) = true := by decide +kernel
theorem rise_one {n : Nat} (F : List Int) (hn : n ≤ 1) : riseF F n = true := rise_yes fun i hi => by omega
theorem b9_bare (a n : Nat) (F : List Int) (hn : n ≤ 1) : chkO ((b9 n F).byA (grp.pw 4 a)).bare = 0 :=
  chk_ok (o := ((b9 n F).byA (grp.pw 4 a)).bare) (show ¬ 4 < n by omega) (rise_one F hn) (okO_of ((b9 n F).byA (grp.pw 4 a)).bare (grp.inG_pw 4 a grp.in4) b9_ok2 gO_sig0)
theorem s9_chk (a n : Nat) (F : List Int) (hn : n ≤ 1) : chkO (s9 a n F) = 0 := chk_sigd (b9_bare a n F hn) (eN_lt _ _) (sN_lt _ _)
theorem s9_ver (a n : Nat) (F : List Int) (hn : n ≤ 1) : verO (s9 a n F) = 0 := ver_zero (b9 n F) _ _ _ (s9_chk a n F hn) (signed_right a _)
theorem s9_fit (a n : Nat) (F : List Int) (hF : Bytes F) (hn : n ≤ 1) : (s9 a n F).Fit := fit_sigd (b9_fit n F hF hn) _ _ _ (grp.inG_u32 (grp.inG_pw 4 a grp.in4)) (eN_lt _ _) (sN_lt _ _)
/-- What such an operation is, in numbers. -/
structure SigL (a n : Nat) (F : List Int) (y e s : Nat) (x : List Int) : Prop where
  op : s9 a n F = (b9 n F).sigd y e s
  id : shaF (encO (s9 a n F)) = x
theorem sigL_of (a n : Nat) (F : List Int) (y k r e s : Nat) (m b x : List Int) (hy : grp.pw 4 a = y) (hm : msgB ((b9 n F).byA y) = m) (hk : nonceN a m = k) (hr : grp.pw 4 k = r) (he : chalN r y m = e) (hs : (k + e * a % 500000003) % 500000003 = s) (hb : encO ((b9 n F).sigd y e s) = b) (hx : shaF b = x) : SigL a n F y e s x := by
  have h1 : s9 a n F = (b9 n F).sigd y e s := by
    have e1 : eN a m = e := by unfold eN; rw [hk, hr, hy, he]
    have e2 : sN a m = s := by unfold sN; rw [e1, hk, hs]
    unfold s9
    rw [hy, hm, e1, e2]
  exact ⟨h1, by rw [h1, hb, hx]⟩
def x1 : List Int := [114, 98, 67, 49, 49, 105, 2, 103, 116, 6, 228, 162, 149, 81, 200, 12, 154, 138, 190, 161, 79, 203, 38, 124, 216, 152, 32, 52, 195, 238, 3, 132]
def x2 : List Int := [21, 212, 110, 188, 78, 185, 227, 55, 177, 78, 225, 72, 97, 254, 14, 46, 152, 40, 250, 61, 168, 204, 12, 221, 182, 216, 80, 19, 27, 92, 162, 20]
def m1 : List Int := [111, 4, 0, 1, 1]
def m2 : List Int := [111, 16, 1, 114, 98, 67, 49, 49, 105, 2, 103, 116, 6, 228, 162, 149, 81, 200, 12, 154, 138, 190, 161, 79, 203, 38, 124, 216, 152, 32, 52, 195, 238, 3, 132, 1, 1]
theorem y1_is : grp.pw 4 1 = 4 := by rw [grp.pw_eq _ _ (by decide)]; decide +kernel
theorem y2_is : grp.pw 4 2 = 16 := by rw [grp.pw_eq _ _ (by decide)]; decide +kernel
theorem m1_is : msgB ((b9 0 []).byA 4) = m1 := by decide +kernel
theorem m2_is : msgB ((b9 1 x1).byA 16) = m2 := by decide +kernel
theorem k1_is : nonceN 1 m1 = 211812135 := by decide +kernel
theorem k2_is : nonceN 2 m2 = 314077299 := by decide +kernel
theorem r1_is : grp.pw 4 211812135 = 336507345 := by rw [grp.pw_eq _ _ (by decide)]; decide +kernel
theorem r2_is : grp.pw 4 314077299 = 350125251 := by rw [grp.pw_eq _ _ (by decide)]; decide +kernel
theorem e1_is : chalN 336507345 4 m1 = 376595462 := by decide +kernel
theorem e2_is : chalN 350125251 16 m2 = 480380063 := by decide +kernel
def c1 : List Int := [111, 4, 0, 1, 1, 251, 22, 114, 100, 6, 251, 5, 68, 254, 42]
def c2 : List Int := [111, 16, 1, 114, 98, 67, 49, 49, 105, 2, 103, 116, 6, 228, 162, 149, 81, 200, 12, 154, 138, 190, 161, 79, 203, 38, 124, 216, 152, 32, 52, 195, 238, 3, 132, 1, 1, 251, 28, 162, 4, 159, 251, 16, 97, 175, 171]
theorem c1_is : encO ((b9 0 []).sigd 4 376595462 88407594) = c1 := by decide +kernel
theorem c2_is : encO ((b9 1 x1).sigd 16 480380063 274837419) = c2 := by decide +kernel
theorem x1_is : shaF c1 = x1 := by decide +kernel
theorem x2_is : shaF c2 = x2 := by decide +kernel
theorem sig1 : SigL 1 0 [] 4 376595462 88407594 x1 := sigL_of 1 0 [] 4 _ _ _ _ _ _ _ y1_is m1_is k1_is r1_is e1_is (by decide +kernel) c1_is x1_is
theorem sig2 : SigL 2 1 x1 16 480380063 274837419 x2 := sigL_of 2 1 x1 16 _ _ _ _ _ _ _ y2_is m2_is k2_is r2_is e2_is (by decide +kernel) c2_is x2_is
theorem x1_ne : x1 ≠ x2 := by decide
theorem x1_length : x1.length = 32 := rfl
theorem x2_length : x2.length = 32 := rfl
theorem x1_bytes : Bytes x1 := by have h := shaF_bytes c1; rw [x1_is] at h; exact h
theorem x2_bytes : Bytes x2 := by have h := shaF_bytes c2; rw [x2_is] at h; exact h
end Go.Proofs.YtlbgffhipondiaaGreatDoor.wir.val
namespace Go.Proofs.YtlbgffhipondiaaGreatDoor.wir.val
open Go.RowKit Go.YtlbgffhipondiaaGreatDoor
set_option linter.unusedVariables false
theorem place_unique {F x : List Int} {n p q : Nat} (h1 : PlaceAt F n x p) (h2 : PlaceAt F n x q) : p = q := by
  rcases Nat.lt_trichotomy p q with h | h | h
  · exact absurd (h2.lo p h) (h1.hi p (Nat.le_refl _) (by have := h2.le; omega))
  · exact h
  · exact absurd (h1.lo q h) (h2.hi q (Nat.le_refl _) (by have := h1.le; omega))
theorem insF_length {F x : List Int} {n p : Nat} (hF : F.length = 32 * n) (hp : p ≤ n) (hx : x.length = 32) : (insF F p x).length = 32 * (n + 1) := by
  unfold insF
  rw [List.length_append, List.length_append, List.length_take, List.length_drop]
  omega
end Go.Proofs.YtlbgffhipondiaaGreatDoor.wir.val
namespace Go.Proofs.YtlbgffhipondiaaGreatDoor.wir.val
open Go.RowKit Go.YtlbgffhipondiaaGreatDoor
set_option linter.unusedVariables false
/-- The id of an operation. -/
noncomputable def idO (o : Od) : List Int := shaF (encO o)
theorem chk_len {F : List Int} {n : Nat} {L : List Od} (h : ChkG F n L 0) : n = L.length := (name_iff.1 (chkG_zero h).2.1).1
theorem chk_none : ChkG [] 0 [] 0 := .inr (.inr ⟨Nat.zero_le _, rfl, .inr (.inr (.inr ⟨rfl, rfl, fun i hi => absurd hi (Nat.not_lt_zero _), rfl⟩))⟩)
end Go.Proofs.YtlbgffhipondiaaGreatDoor.wir.val
namespace Go
namespace YtlbgffhipondiaaGreatDoor
set_option linter.unusedVariables false
section
variable {P : Program} {ops : Array Oper} {md : Region.Mode} {Q : Exit → Act → World → Prop}
/-- Each operation of K made its blocks apart from the others. -/
def fxSep (K : Nat → Prop) (iv : Nat → Nat × Nat) (w : World) : Prop := (∀ k, K k → (iv k).1 ≤ (iv k).2 ∧ (iv k).2 ≤ w.heap.size) ∧ ∀ k l, K k → K l → k ≠ l → (iv k).2 ≤ (iv l).1 ∨ (iv l).2 ≤ (iv k).1
theorem fxSep.sub {K K' : Nat → Prop} {iv : Nat → Nat × Nat} {w : World} (h : fxSep K iv w) (hs : ∀ k, K' k → K k) : fxSep K' iv w := ⟨fun k hk => h.1 k (hs k hk), fun k l hk hl => h.2 k l (hs k hk) (hs l hl)⟩
section
variable {n : Nat} {A : List (List Nat)} {Φ : Nat → (Nat → Value) → (Nat → Nat × Nat) → World → Prop} {G : Nat → (Nat → Value) → (Nat → Nat × Nat) → World → World → Prop} {Inv : World → Prop} {a0 : Act}
theorem fx_anyG {U : List (List Nat)} {Uf : List Nat} (hB : FxOk ops n A) (hU : fxUses n A U = true) (hI : ∀ i vs iv w w', i < n → Inv w → w.heap.size ≤ w'.heap.size → G i vs iv w w' → Inv w')
    (hC : ∀ j vs vs' iv iv' w, j < n → (∀ k, k = j ∨ k ∈ A.getD j [] → vs k = vs' k ∧ iv k = iv' k) → Φ j vs iv w → Φ j vs' iv' w)
    (hG : ∀ i j vs iv w w', i < n → j < n → fxAfter A i j = true → fxNeed n A U Uf i j = true → Inv w → fxSep (fun k => k ∈ A.getD i [] ∨ k = j ∨ k ∈ A.getD j []) iv w → Φ j vs iv w → w.heap.size ≤ w'.heap.size → G i vs iv w w' → Φ j vs iv w')
    (hstep : ∀ i o vs iv w, i < n → ops[i]? = some o → Inv w → fxSep (fun k => k ∈ A.getD i []) iv w → (∀ j, j ∈ U.getD i [] → Φ j vs iv w) → FxStep P ops o (fxF ops vs fxT a0 i) w fun v w' => w.heap.size ≤ w'.heap.size ∧ Φ i (fun j => if j = i then v else vs j) (fun j => if j = i then (w.heap.size, w'.heap.size) else iv j) w' ∧ G i vs iv w w')
    (hdone : ∀ vs iv w, Inv w → fxSep (fun k => k < n) iv w → (∀ j, j < n → j ∈ Uf → Φ j vs iv w) → wpList P ops Q (ops.toList.drop n) (fxF ops vs fxT a0 n) w) :
    ∀ (d : Nat) (listed : Array Bool) (vs : Nat → Value) (iv : Nat → Nat × Nat) (w : World), Closed .any ops listed → (∀ j, n ≤ j → j < ops.size → listed.getD j false = false) → fxLeft listed n = d → Inv w → fxSep (fun k => k < n ∧ listed.getD k false = true) iv w →
      (∀ j, j < n → listed.getD j false = true → fxLive n U Uf listed j → Φ j vs iv w) → wpAny P .any ops Q (d + (ops.size - n)) listed (fxF ops vs (fun j => listed.getD j false) a0 n) w := by
  intro d
  induction d with
  | zero =>
    intro listed vs iv w cl hout hleft hinv hsp hf
    have hall := fxLeft_zero hleft
    have hL : listed = (Array.replicate n true) ++ (Array.replicate (ops.size - n) false) := by
      refine Array.ext (by rw [cl.1]; have := hB.le; simp; omega) fun j hj1 hj2 => ?_
      have e : listed.getD j false = listed[j] := by simp [Array.getD, hj1]
      rw [← e]
      by_cases hjn : j < n
      · rw [hall j hjn, Array.getElem_append_left (by simpa using hjn)]; simp
      · rw [hout j (by omega) (by rw [← cl.1]; exact hj1), Array.getElem_append_right (by simpa using hjn)]; simp
    have hfr : fxF ops vs (fun j => listed.getD j false) a0 n = fxF ops vs fxT a0 n := fxF_agree _ _ _ _ _ _ fun j hj => ⟨hall j hj, fun _ => rfl⟩
    rw [hfr, Nat.zero_add]
    have hlen : (ops.toList.drop n).length = ops.size - n := by simp
    have h := wpAny_of_seq (P := P) (ops := ops) (md := .any) (Q' := Q) (ops.toList.drop n) n listed (fxF ops vs fxT a0 n) w (fun j => by simp [List.getElem?_drop]) (by rw [hlen, hL]; exact hB.seq) (hdone vs iv w hinv (hsp.sub fun k hk => ⟨hk, hall k hk⟩) fun j hj hu => hf j hj (hall j hj) (.inl hu))
    rwa [hlen] at h
  | succ d ih =>
    intro listed vs iv w cl hout hleft hinv hsp hf
    rw [show d + 1 + (ops.size - n) = (d + (ops.size - n)) + 1 by omega]
    refine ⟨fun hnil => ?_, fun i hi => ?_⟩
    · exfalso
      obtain ⟨j, hj, hju⟩ := fxLeft_pos (listed := listed) (n := n) (by omega)
      have hex : ∃ j, j ∈ Region.ready .any ops listed := by
        clear hnil
        induction j using Nat.strongRecOn with
        | _ j jh =>
          have hlt : j < ops.size := Nat.lt_of_lt_of_le hj hB.le
          by_cases ha : ∀ e ∈ ops[j].after, Region.binds .any e = true → listed.getD e.on false = true
          · refine ⟨j, mem_ready.2 ⟨?_, _, Array.getElem?_eq_getElem hlt, ha⟩⟩
            have hjs : j < listed.size := by rw [cl.1]; exact hlt
            simp [Array.getD, hjs] at hju ⊢
            exact hju
          · obtain ⟨e, he⟩ := Classical.not_forall.1 ha
            obtain ⟨he1, he2⟩ := Classical.not_imp.1 he
            obtain ⟨hb, hu⟩ := Classical.not_imp.1 he2
            have hon := hB.aft j _ (Array.getElem?_eq_getElem hlt) e he1 hb
            exact jh e.on hon (by omega) (by simpa using hu)
      obtain ⟨j', hj'⟩ := hex
      rw [hnil] at hj'; cases hj'
    · obtain ⟨hiu, o, ho, hall⟩ := mem_ready.1 hi
      have his : i < ops.size := (Array.getElem?_eq_some_iff.1 ho).1
      have hils : i < listed.size := by rw [cl.1]; exact his
      have hif : listed.getD i false = false := by simp [Array.getD, hils] at hiu ⊢; exact hiu
      have hanc := anc_listed hB cl i o ho hall
      rcases Nat.lt_or_ge i n with hin | hin
      · have hlk : ∀ t, t ∈ o.looksAt ops → (fxF ops vs (fun j => listed.getD j false) a0 n).tmps[t]? = (fxF ops vs fxT a0 i).tmps[t]? := fun t ht =>
          fxF_look vs _ a0 n i (Nat.le_of_lt hin) t fun j hj hd => by
            rcases hB.look i o j t hin hj ho hd ht with ⟨h1, h2⟩ | ⟨h1, h2⟩ | h1
            · exact ⟨fun _ => hanc j h2, fun h => by omega⟩
            · refine ⟨fun h => by omega, fun _ => ?_⟩
              cases hb : listed.getD j false with
              | false => rfl
              | true =>
                have hjs : j < ops.size := Nat.lt_of_lt_of_le hj hB.le
                have := anc_listed hB cl j _ (Array.getElem?_eq_getElem hjs) (fun e he hb2 => cl.2 j _ (Array.getElem?_eq_getElem hjs) hb e he hb2) i h2
                rw [hif] at this; cases this
            · subst h1; exact ⟨fun h => by omega, fun _ => hif⟩
        have hsel : ∀ cs b, o.op ≠ .select cs b := fun cs b => Region.noSelect_spec hB.sel i o cs b ho
        have hst := hstep i o vs iv w hin ho hinv (hsp.sub fun k hk => ⟨by have := (hB.anc i o ho k hk).1; omega, hanc k hk⟩) fun j hj => (have hja := fxUses_mem hU hin hj; hf j (by have := (hB.anc i o ho j hja).1; omega) (hanc j hja) (.inr ⟨i, hin, hif, hj⟩))
        rw [← fx_same hsel _ _ hlk] at hst
        refine fx_wpOp ho hst fun v w' ⟨hgr, hΦ, hg⟩ => ?_
        have hdd : o.dst = (ops[i]?).bind (·.dst) := by rw [ho]; rfl
        have hfp := fxF_put (ops := ops) vs (fun j => listed.getD j false) a0 n i v hin hif fun k hk hkn hLk d' hd' hd2 => by
          have hks : k < ops.size := Nat.lt_of_lt_of_le hkn hB.le
          rw [ho] at hd'
          have h2 := hB.dst i o k d' hin hkn ho hd2 hd' hk
          have := anc_listed hB cl k _ (Array.getElem?_eq_getElem hks) (fun e he hb2 => cl.2 k _ (Array.getElem?_eq_getElem hks) hLk e he hb2) i h2
          rw [hif] at this; cases this
        rw [hdd, hfp]
        have hfr : fxF ops (fun j => if j = i then v else vs j) (fun j => if j = i then true else listed.getD j false) a0 n = fxF ops (fun j => if j = i then v else vs j) (fun j => (listed.setIfInBounds i true).getD j false) a0 n := fxF_agree _ _ _ _ _ _ fun j hj => by
          refine ⟨?_, fun _ => rfl⟩
          by_cases e : j = i
          · subst e; simp [hils]
          · rw [if_neg e, getD_set_ne false (fun h => e h.symm)]
        rw [hfr]
        refine ih _ _ (fun j => if j = i then (w.heap.size, w'.heap.size) else iv j) _ (cl.set hi) (fun j h1 h2 => ?_) ?_ (hI i vs iv w w' hin hinv hgr hg) ?_ fun j hj hjl hlv => ?_
        · rw [getD_set_ne false (by omega)]; exact hout j h1 h2
        · have := fxLeft_set hin hils hif; omega
        · have hold : ∀ k, (k < n ∧ (listed.setIfInBounds i true).getD k false = true) → k ≠ i → (k < n ∧ listed.getD k false = true) := fun k hk hne => by
            rw [getD_set_ne false (fun h => hne h.symm)] at hk; exact hk
          refine ⟨fun k hk => ?_, fun k l hk hl hkl => ?_⟩
          · by_cases e : k = i
            · simp only [if_pos e]; exact ⟨hgr, Nat.le_refl _⟩
            · simp only [if_neg e]
              have := hsp.1 k (hold k hk e)
              exact ⟨this.1, Nat.le_trans this.2 hgr⟩
          · by_cases e : k = i
            · have e2 : l ≠ i := fun h => hkl (e.trans h.symm)
              simp only [if_pos e, if_neg e2]
              exact .inr (hsp.1 l (hold l hl e2)).2
            · by_cases e2 : l = i
              · simp only [if_neg e, if_pos e2]
                exact .inl (hsp.1 k (hold k hk e)).2
              · simp only [if_neg e, if_neg e2]
                exact hsp.2 k l (hold k hk e) (hold l hl e2) hkl
        · by_cases e : j = i
          · subst e; exact hΦ
          · rw [getD_set_ne false (fun h => e h.symm)] at hjl
            have hlv2 : fxLive n U Uf listed j ∧ fxNeed n A U Uf i j = true := by
              rcases hlv with h | ⟨k, hk, hkl, hku⟩
              · exact ⟨.inl h, by unfold fxNeed; simp [h]⟩
              · have hki : k ≠ i := fun h => by subst h; simp [hils] at hkl
                rw [getD_set_ne false (fun h => hki h.symm)] at hkl
                refine ⟨.inr ⟨k, hk, hkl, hku⟩, ?_⟩
                unfold fxNeed
                rw [Bool.or_eq_true, List.any_eq_true]
                refine .inr ⟨k, List.mem_range.2 hk, ?_⟩
                have hnk : k ∉ A.getD i [] := fun hm => by rw [hanc k hm] at hkl; cases hkl
                rw [Bool.and_eq_true, Bool.and_eq_true, decide_eq_true_eq]
                exact ⟨⟨hki, by simpa using hnk⟩, by simpa using hku⟩
            have hjs : j < ops.size := Nat.lt_of_lt_of_le hj hB.le
            have hni : i ∉ A.getD j [] := fun hm => by
              have := anc_listed hB cl j _ (Array.getElem?_eq_getElem hjs) (fun e he hb2 => cl.2 j _ (Array.getElem?_eq_getElem hjs) hjl e he hb2) i hm
              rw [hif] at this; cases this
            refine hC j vs _ iv _ w' hj (fun k hk => ?_) (hG i j vs iv w w' hin hj ?_ hlv2.2 hinv (hsp.sub fun k hk => ?_) (hf j hj hjl hlv2.1) hgr hg)
            · have hki : k ≠ i := by
                rcases hk with rfl | hk
                · exact e
                · exact fun h => hni (h ▸ hk)
              exact ⟨by simp only [if_neg hki], by simp only [if_neg hki]⟩
            · unfold fxAfter
              rw [Bool.and_eq_true, decide_eq_true_eq]
              exact ⟨fun h => e h.symm, by simpa using hni⟩
            · rcases hk with hk | rfl | hk
              · exact ⟨by have := (hB.anc i o ho k hk).1; omega, hanc k hk⟩
              · exact ⟨hj, hjl⟩
              · exact ⟨by have := (hB.anc j _ (Array.getElem?_eq_getElem hjs) k hk).1; omega, anc_listed hB cl j _ (Array.getElem?_eq_getElem hjs) (fun e he hb2 => cl.2 j _ (Array.getElem?_eq_getElem hjs) hjl e he hb2) k hk⟩
      · exfalso
        obtain ⟨j, hj, hju⟩ := fxLeft_pos (listed := listed) (n := n) (by omega)
        have := hanc j (hB.tail i hin his j hj)
        rw [hju] at this; cases this
/-- **A region that draws its order**, its facts used up, with the blocks that each operation makes apart from those of the others (iv): one fact for each of its first n operations, kept by all that may come behind it and ahead of one that uses it; what comes behind them is walked as' a list. -/
theorem wp_region_fxg {id : Nat} {w : World} {l : List Oper} (n : Nat) (A U : List (List Nat)) (Uf : List Nat) (hm : P.follows .mixedOrders = true) (hB : fxB l.toArray n A = true) (hU : fxUses n A U = true)
    (Φ : Nat → (Nat → Value) → (Nat → Nat × Nat) → World → Prop) (G : Nat → (Nat → Value) → (Nat → Nat × Nat) → World → World → Prop) (Inv : World → Prop) (h0 : Inv { w with drawn := w.drawn + 1 })
    (hI : ∀ i vs iv w w', i < n → Inv w → w.heap.size ≤ w'.heap.size → G i vs iv w w' → Inv w')
    (hC : ∀ j vs vs' iv iv' w, j < n → (∀ k, k = j ∨ k ∈ A.getD j [] → vs k = vs' k ∧ iv k = iv' k) → Φ j vs iv w → Φ j vs' iv' w)
    (hG : ∀ i j vs iv w w', i < n → j < n → fxAfter A i j = true → fxNeed n A U Uf i j = true → Inv w → fxSep (fun k => k ∈ A.getD i [] ∨ k = j ∨ k ∈ A.getD j []) iv w → Φ j vs iv w → w.heap.size ≤ w'.heap.size → G i vs iv w w' → Φ j vs iv w')
    (hstep : ∀ i o vs iv w, i < n → l.toArray[i]? = some o → Inv w → fxSep (fun k => k ∈ A.getD i []) iv w → (∀ j, j ∈ U.getD i [] → Φ j vs iv w) → FxStep P l.toArray o (fxF l.toArray vs fxT a0 i) w fun v w' => w.heap.size ≤ w'.heap.size ∧ Φ i (fun j => if j = i then v else vs j) (fun j => if j = i then (w.heap.size, w'.heap.size) else iv j) w' ∧ G i vs iv w w')
    (hdone : ∀ vs iv w, Inv w → fxSep (fun k => k < n) iv w → (∀ j, j < n → j ∈ Uf → Φ j vs iv w) → wpList P l.toArray Q (l.drop n) (fxF l.toArray vs fxT a0 n) w) : (Code.region id l.toArray true).wp P Q a0 w := by
  have hk := fxB_ok hB
  have cl0 : Closed .any l.toArray (Array.replicate l.toArray.size false) := ⟨by simp, fun j oj _ hl => (by rw [getD_replicate_false] at hl; cases hl)⟩
  have hl0 : fxLeft (Array.replicate l.toArray.size false) n = n := by
    unfold fxLeft
    rw [List.filter_eq_self.2 (fun j _ => by rw [getD_replicate_false]; rfl), List.length_range]
  have h := fx_anyG (U := U) (Uf := Uf) (a0 := a0) hk hU hI hC hG hstep (fun vs iv w h1 h2 h3 => by simpa using hdone vs iv w h1 h2 h3) n (Array.replicate l.toArray.size false) (fun _ => undef) (fun _ => (0, 0)) { w with drawn := w.drawn + 1 } cl0 (fun j _ _ => getD_replicate_false _ _) hl0 h0 ⟨fun k hk => (by have h := hk.2; rw [getD_replicate_false] at h; cases h), fun k l hk => (by have h := hk.2; rw [getD_replicate_false] at h; cases h)⟩ (fun j _ hl _ => by rw [getD_replicate_false] at hl; cases hl)
  have hfr : fxF l.toArray (fun _ => undef) (fun j => (Array.replicate l.toArray.size false).getD j false) a0 n = a0 := by
    have : ∀ k, fxF l.toArray (fun _ => undef) (fun j => (Array.replicate l.toArray.size false).getD j false) a0 k = a0 := by
      intro k
      induction k with
      | zero => rfl
      | succ k ih =>
        show (if (Array.replicate l.toArray.size false).getD k false = true then _ else _) = a0
        rw [getD_replicate_false, if_neg (by decide)]; exact ih
    exact this n
  rw [hfr, show n + (l.toArray.size - n) = l.toArray.size by have := hk.le; omega] at h
  exact wp_region_any hm h
end
end
end YtlbgffhipondiaaGreatDoor
end Go
namespace Go.Proofs.YtlbgffhipondiaaGreatDoor.wir.val
open Go.RowKit Go.YtlbgffhipondiaaGreatDoor
set_option linter.unusedVariables false
/-- The world wx has the blocks from lo to hi as' w has them. -/
def Like (lo hi : Nat) (w wx : World) : Prop := (∀ k, lo ≤ k → k < hi → wx.heap[k]? = w.heap[k]?) ∧ w.heap.size ≤ wx.heap.size
/-- What holds as' long as' the blocks from lo to hi stay. -/
def Fast (lo hi : Nat) (R : World → Prop) (w : World) : Prop := ∀ wx, Like lo hi w wx → R wx
theorem Fast.now {lo hi : Nat} {R : World → Prop} {w : World} (h : Fast lo hi R w) : R w := h w ⟨fun _ _ _ => rfl, Nat.le_refl _⟩
theorem Fast.keep {lo hi : Nat} {R : World → Prop} {w w' : World} (h : Fast lo hi R w) (hl : Like lo hi w w') : Fast lo hi R w' := fun wx hx => h wx ⟨fun k a b => (hx.1 k a b).trans (hl.1 k a b), Nat.le_trans hl.2 hx.2⟩
theorem Fast.and {lo hi : Nat} {R S : World → Prop} {w : World} (h : Fast lo hi R w) (g : Fast lo hi S w) : Fast lo hi (fun x => R x ∧ S x) w := fun wx hx => ⟨h wx hx, g wx hx⟩
theorem cell_like {w wx : World} {b o : Nat} (h : wx.heap[b]? = w.heap[b]?) : wx.cell? ⟨b, o, none⟩ = w.cell? ⟨b, o, none⟩ := by
  simp [World.cell?, h]
theorem rdI_fast {w : World} {v : Value} {n B : Nat} {F : List Int} (h : RdI w v n F) (hB : ∀ b o m c, v = .slice (some ⟨b, o, none⟩) m c → 0 < m → B ≤ b) : Fast B w.heap.size (fun x => RdI x v n F) w := fun wx hx => by
  rcases h with h | ⟨b, o, c, hv, h1, h2, h3, h4, h5⟩
  · exact .inl h
  · rcases Nat.eq_zero_or_pos n with h0 | h0
    · refine .inr ⟨b, o, c, hv, h1, h2, Nat.lt_of_lt_of_le h3 hx.2, h4, fun i hi => ?_⟩
      omega
    · exact .inr ⟨b, o, c, hv, h1, h2, Nat.lt_of_lt_of_le h3 hx.2, h4, fun i hi => by rw [cell_like (hx.1 b (hB b o n c hv h0) h3)]; exact h5 i hi⟩
theorem ownI_fast {w : World} {v : Value} {n B : Nat} {F : List Int} (h : OwnI B 24 w v n F) : Fast B w.heap.size (fun x => RdI x v n F) w :=
  rdI_fast h.rd fun b o m c e h0 => (tyI_own h (Nat.le_refl _) b o m c e h0).1
theorem ownP_fast {w : World} {v : Value} {B : Nat} {r : Option Nat} {L : List Od} (h : OwnP B r w v L) : Fast B w.heap.size (fun x => RdO x v L) w := fun wx hx => by
  obtain ⟨xs, h1, h2, h3⟩ := h
  have hk : OwnP B r wx v L := by
    refine ⟨xs, ⟨h1.1, ?_⟩, h2, fun i hi => ?_⟩
    · rcases h1.2 with hn | ⟨g, cap, cur, rfl, hbg, hg, rest⟩
      · exact .inl hn
      · exact .inr ⟨g, cap, cur, rfl, hbg, (hx.1 g hbg (Array.getElem?_eq_some_iff.1 hg).1).trans hg, rest⟩
    · obtain ⟨pv, e1, e2, e3, e4⟩ := h3 i hi
      refine ⟨pv, e1, rdI_fast e2 (fun b o m c e h0 => (e4 b o m c e h0).1) wx hx, e3, fun b o m c e h0 => ?_⟩
      obtain ⟨g1, cs, fr, g2⟩ := e4 b o m c e h0
      exact ⟨g1, cs, fr, (hx.1 b g1 (Array.getElem?_eq_some_iff.1 g2).1).trans g2⟩
  exact hk.rd
theorem fx_rowK {P : Program} {ops : Array Oper} {o : Oper} {a : Act} {w : World} {R : Value → World → Prop} (ty : TypeId) (x : Operand) (hw : Region.wanted o (yielded ops a.tmps) = true) (ho : o.op = .load ty x) (g : Nat) (hx : a.eval x = .pointer (some ⟨g, 0, none⟩)) (cs : Array Value)
    (hl : (loadVar ty ⟨g, 0, none⟩).run P w = .ok (.agg cs) w) (hR : R (.agg cs) w) : FxStep P ops o a w R :=
  fx_val (v := .agg cs) (w' := w) hw (by
    unfold execOp
    simp only [ho, hx, Instr.loadAt, Instr.sureAddr, Sem.run_bind, Sem.run_pure, Result.andThen_ok, hl]) hR
theorem fx_wantedK {ops : Array Oper} {o : Oper} {a : Act} {k : Nat} {t : Tmp} {b : Bool} (hg : o.guard = some (k, b)) (hd : (ops[k]?).bind (·.dst) = some t) (e : a.eval (.tmp t) = .bool b) : Region.wanted o (yielded ops a.tmps) = true := by
  unfold Region.wanted yielded
  rw [hg]
  simp only [hd, Option.bind_some]
  have h : (a.tmps[t]?).getD undef = .bool b := by simpa [Act.eval] using e
  cases hx : a.tmps[t]? with
  | none => rw [hx] at h; cases h
  | some v =>
    rw [hx] at h
    have h2 : v = .bool b := h
    subst h2
    simp
theorem fx_cellK {P : Program} {ops : Array Oper} {o : Oper} {a : Act} {w : World} {R : Value → World → Prop} (ty : TypeId) (x : Operand) (hw : Region.wanted o (yielded ops a.tmps) = true) (ho : o.op = .load ty x) (g k : Nat) (hx : a.eval x = .pointer (some ⟨g, k, none⟩)) (cs : Array Value) (T : TypeId) (fr : Nat × Nat) (hg : w.heap[g]? = some (.cells cs T fr)) (v : Value) (hv : cs[k]? = some v)
    (hu : ∀ w, (isAgg ty).run P w = .ok false w) (hR : R v w) : FxStep P ops o a w R :=
  fx_val (v := v) (w' := w) hw (by
    have hc : w.cell? ⟨g, k, none⟩ = some v := (cell_of_row _ _ _ _ _ _ hg).trans hv
    unfold execOp
    generalize a.eval = ev at *
    simp only [ho]
    simp [go_sem, hx, hu w, hc]) hR
theorem fx_eqIDK {ops : Array Oper} {o : Oper} {a : Act} {w : World} {R : Value → World → Prop} (x y : Operand) (hw : Region.wanted o (yielded ops a.tmps) = true) (ho : o.op = .binOp .eql 24 x y 24)
    (D E : List Int) (hD : D.length = 32) (hE : E.length = 32) (B : Bool) (hB : decide (D = E) = B) (hx : a.eval x = .agg (u8s D)) (hy : a.eval y = .agg (u8s E)) (hR : R (.bool B) w) : FxStep Tryz.prog ops o a w R :=
  fx_val (v := .bool B) (w' := w) hw (by
    subst hB
    have h0 : Tryz.prog.eqGuardType Tryz.prog.depth 24 = false := by kernel_rfl
    have hg := run_eqGuard_agg (P := Tryz.prog) w .eql 24 x y (u8s D) (u8s E) h0
    have hq := run_equalArr (P := Tryz.prog) w 9998 24 5 32 Tryz.underlying24 Tryz.underlying5 (by kernel_rfl) D E hD hE
    unfold execOp
    generalize a.eval = ev at *
    simp only [ho]
    simp only [hx, hy] at *
    simp [go_sem, hg, hq]) hR
/-- What an operation leaves. -/
inductive FK
  | any
  | eq (v : Value)
  | len (n : Nat)
  | ids (n : Nat) (F : List Int)
  | op (o : Od) (n : Nat) (F : List Int)
  | add (k n : Nat) (F : List Int) (L : List Od) (x : List Int) (c : Int)
  | two (k n : Nat) (F : List Int) (L : List Od) (c : Int)
  | gr (k n : Nat) (F : List Int) (L : List Od)
  | blk (B : Nat) (cs : Array Value) (T : TypeId)
  | putg (b k n : Nat) (F : List Int) (L : List Od)
  | putc (b : Nat) (cs : Array Value) (T : TypeId)
def GrW (ia oa : Option Addr) (n ic oc : Nat) (F : List Int) (L : List Od) (w : World) : Prop := RdI w (.slice ia n ic) n F ∧ RdO w (.slice oa n oc) L
theorem GrW.mono {ia oa : Option Addr} {n ic oc : Nat} {F : List Int} {L : List Od} {w w' : World} (h : GrW ia oa n ic oc F L w) (hb : Below w.heap.size w w') : GrW ia oa n ic oc F L w' := ⟨h.1.mono hb, h.2.mono hb⟩
def FK.P (vs : Nat → Value) (iv : Nat → Nat × Nat) (j : Nat) (w : World) : FK → Prop
  | .any => True
  | .eq v => vs j = v
  | .len n => ∃ a c, vs j = .slice a n c
  | .ids n F => ∃ a c, vs j = .slice a n c ∧ RdI w (.slice a n c) n F
  | .op o n F => ∃ a c, vs j = .agg (o.c (.slice a n c)) ∧ RdI w (.slice a n c) n F
  | .add k n F L x c => ∃ ia ic oa oc, vs j = .tuple #[.agg (gC (.slice ia n ic) (.slice oa n oc)), .agg (u8s x), .int .i64 c] ∧ Fast (iv k).1 (iv k).2 (GrW ia oa n ic oc F L) w
  | .two k n F L c => ∃ ia ic oa oc, vs j = .tuple #[.agg (gC (.slice ia n ic) (.slice oa n oc)), .int .i64 c] ∧ Fast (iv k).1 (iv k).2 (GrW ia oa n ic oc F L) w
  | .gr k n F L => ∃ ia ic oa oc, vs j = .agg (gC (.slice ia n ic) (.slice oa n oc)) ∧ Fast (iv k).1 (iv k).2 (GrW ia oa n ic oc F L) w
  | .blk B cs T => ∃ g, vs j = .pointer (some ⟨g, 0, none⟩) ∧ (iv j).1 ≤ g ∧ g < (iv j).2 ∧ B ≤ g ∧ w.heap[g]? = some (.cells cs T (0, 0))
  | .putg b k n F L => ∃ g ia ic oa oc, vs b = .pointer (some ⟨g, 0, none⟩) ∧ (iv b).1 ≤ g ∧ g < (iv b).2 ∧ w.heap[g]? = some (.cells (gC (.slice ia n ic) (.slice oa n oc)) 41 (0, 0)) ∧ Fast (iv k).1 (iv k).2 (GrW ia oa n ic oc F L) w
  | .putc b cs T => ∃ g, vs b = .pointer (some ⟨g, 0, none⟩) ∧ (iv b).1 ≤ g ∧ g < (iv b).2 ∧ w.heap[g]? = some (.cells cs T (0, 0))
/-- The operations whose blocks a fact speaks of; none: it bears no store. -/
def FK.refs (j : Nat) : FK → Option (List Nat)
  | .any => some []
  | .eq _ => some []
  | .len _ => some []
  | .ids _ _ => none
  | .op _ _ _ => none
  | .add k _ _ _ _ _ => some [k]
  | .two k _ _ _ _ => some [k]
  | .gr k _ _ _ => some [k]
  | .blk _ _ _ => some [j]
  | .putg b k _ _ _ => some [b, k]
  | .putc b _ _ => some [b]
theorem FK.cong {K : FK} {vs vs' : Nat → Value} {iv iv' : Nat → Nat × Nat} {j : Nat} {w : World} (h : ∀ k, k = j ∨ (∃ l, K.refs j = some l ∧ k ∈ l) → vs k = vs' k ∧ iv k = iv' k) (hp : K.P vs iv j w) : K.P vs' iv' j w := by
  have hj := h j (.inl rfl)
  cases K with
  | any => exact hp
  | eq v => exact hj.1.symm.trans hp
  | len n => obtain ⟨a, c, e⟩ := hp; exact ⟨a, c, hj.1.symm.trans e⟩
  | ids n F => obtain ⟨a, c, e, h⟩ := hp; exact ⟨a, c, hj.1.symm.trans e, h⟩
  | op o n F => obtain ⟨a, c, e, h⟩ := hp; exact ⟨a, c, hj.1.symm.trans e, h⟩
  | add k n F L x c =>
    obtain ⟨ia, ic, oa, oc, e, hf⟩ := hp
    have hk := h k (.inr ⟨_, rfl, by simp⟩)
    exact ⟨ia, ic, oa, oc, hj.1.symm.trans e, hk.2 ▸ hf⟩
  | two k n F L c =>
    obtain ⟨ia, ic, oa, oc, e, hf⟩ := hp
    have hk := h k (.inr ⟨_, rfl, by simp⟩)
    exact ⟨ia, ic, oa, oc, hj.1.symm.trans e, hk.2 ▸ hf⟩
  | gr k n F L =>
    obtain ⟨ia, ic, oa, oc, e, hf⟩ := hp
    have hk := h k (.inr ⟨_, rfl, by simp⟩)
    exact ⟨ia, ic, oa, oc, hj.1.symm.trans e, hk.2 ▸ hf⟩
  | blk B cs T =>
    obtain ⟨g, e, a, b, c, d⟩ := hp
    exact ⟨g, hj.1.symm.trans e, hj.2 ▸ a, hj.2 ▸ b, c, d⟩
  | putg b k n F L =>
    obtain ⟨g, ia, ic, oa, oc, e, a, c, d, hf⟩ := hp
    have hb := h b (.inr ⟨_, rfl, by simp⟩)
    have hk := h k (.inr ⟨_, rfl, by simp⟩)
    exact ⟨g, ia, ic, oa, oc, hb.1.symm.trans e, hb.2 ▸ a, hb.2 ▸ c, d, hk.2 ▸ hf⟩
  | putc b cs T =>
    obtain ⟨g, e, a, c, d⟩ := hp
    have hb := h b (.inr ⟨_, rfl, by simp⟩)
    exact ⟨g, hb.1.symm.trans e, hb.2 ▸ a, hb.2 ▸ c, d⟩
theorem like_below {w w' : World} {lo hi : Nat} (hb : Below w.heap.size w w') (hh : hi ≤ w.heap.size) : Like lo hi w w' := ⟨fun k _ b => hb.block k (Nat.lt_of_lt_of_le b hh), hb.size⟩
theorem like_grown {w w' : World} {g lo hi : Nat} (hg : w.grownBy w' (some g)) (hh : hi ≤ w.heap.size) (hn : ¬ (lo ≤ g ∧ g < hi)) : Like lo hi w w' :=
  ⟨fun k a b => hg.block k (Nat.lt_of_lt_of_le b hh) (fun e => hn (by cases e; exact ⟨a, b⟩)), hg.size⟩
theorem FK.below {K : FK} {vs : Nat → Value} {iv : Nat → Nat × Nat} {j : Nat} {w w' : World} (hs : ∀ k, k = j ∨ (∃ l, K.refs j = some l ∧ k ∈ l) → (iv k).2 ≤ w.heap.size) (hb : Below w.heap.size w w') (hp : K.P vs iv j w) : K.P vs iv j w' := by
  cases K with
  | any => exact hp
  | eq v => exact hp
  | len n => exact hp
  | ids n F => obtain ⟨a, c, e, h⟩ := hp; exact ⟨a, c, e, h.mono hb⟩
  | op o n F => obtain ⟨a, c, e, h⟩ := hp; exact ⟨a, c, e, h.mono hb⟩
  | add k n F L x c => obtain ⟨ia, ic, oa, oc, e, hf⟩ := hp; exact ⟨ia, ic, oa, oc, e, hf.keep (like_below hb (hs k (.inr ⟨_, rfl, by simp⟩)))⟩
  | two k n F L c => obtain ⟨ia, ic, oa, oc, e, hf⟩ := hp; exact ⟨ia, ic, oa, oc, e, hf.keep (like_below hb (hs k (.inr ⟨_, rfl, by simp⟩)))⟩
  | gr k n F L => obtain ⟨ia, ic, oa, oc, e, hf⟩ := hp; exact ⟨ia, ic, oa, oc, e, hf.keep (like_below hb (hs k (.inr ⟨_, rfl, by simp⟩)))⟩
  | blk B cs T => obtain ⟨g, e, a, b, c, d⟩ := hp; exact ⟨g, e, a, b, c, rowK d hb⟩
  | putg b k n F L => obtain ⟨g, ia, ic, oa, oc, e, a, c, d, hf⟩ := hp; exact ⟨g, ia, ic, oa, oc, e, a, c, rowK d hb, hf.keep (like_below hb (hs k (.inr ⟨_, rfl, by simp⟩)))⟩
  | putc b cs T => obtain ⟨g, e, a, c, d⟩ := hp; exact ⟨g, e, a, c, rowK d hb⟩
theorem FK.store {K : FK} {vs : Nat → Value} {iv : Nat → Nat × Nat} {j b0 g0 : Nat} {l : List Nat} {w w' : World} (hl : K.refs j = some l) (hs : ∀ k, k ∈ l → (iv k).2 ≤ w.heap.size ∧ ((iv k).2 ≤ (iv b0).1 ∨ (iv b0).2 ≤ (iv k).1)) (h1 : (iv b0).1 ≤ g0) (h2 : g0 < (iv b0).2) (hg : w.grownBy w' (some g0)) (hp : K.P vs iv j w) : K.P vs iv j w' := by
  have hout : ∀ k, k ∈ l → ¬ ((iv k).1 ≤ g0 ∧ g0 < (iv k).2) := fun k hk => by have := (hs k hk).2; omega
  have hlk : ∀ k, k ∈ l → Like (iv k).1 (iv k).2 w w' := fun k hk => like_grown hg (hs k hk).1 (hout k hk)
  have hrow : ∀ k g cs T, k ∈ l → (iv k).1 ≤ g → g < (iv k).2 → w.heap[g]? = some (.cells cs T (0, 0)) → w'.heap[g]? = some (.cells cs T (0, 0)) := fun k g cs T hk a b h => grown_rowG hg h (fun e => hout k hk (by cases e; exact ⟨a, b⟩))
  cases K with
  | any => exact hp
  | eq v => exact hp
  | len n => exact hp
  | ids n F => cases hl
  | op o n F => cases hl
  | add k n F L x c => cases hl; obtain ⟨ia, ic, oa, oc, e, hf⟩ := hp; exact ⟨ia, ic, oa, oc, e, hf.keep (hlk k (by simp))⟩
  | two k n F L c => cases hl; obtain ⟨ia, ic, oa, oc, e, hf⟩ := hp; exact ⟨ia, ic, oa, oc, e, hf.keep (hlk k (by simp))⟩
  | gr k n F L => cases hl; obtain ⟨ia, ic, oa, oc, e, hf⟩ := hp; exact ⟨ia, ic, oa, oc, e, hf.keep (hlk k (by simp))⟩
  | blk B cs T => cases hl; obtain ⟨g, e, a, b, c, d⟩ := hp; exact ⟨g, e, a, b, c, hrow j g _ _ (by simp) a b d⟩
  | putg b k n F L => cases hl; obtain ⟨g, ia, ic, oa, oc, e, a, c, d, hf⟩ := hp; exact ⟨g, ia, ic, oa, oc, e, a, c, hrow b g _ _ (by simp) a c d, hf.keep (hlk k (by simp))⟩
  | putc b cs T => cases hl; obtain ⟨g, e, a, c, d⟩ := hp; exact ⟨g, e, a, c, hrow b g _ _ (by simp) a c d⟩
/-- How an operation changes the world: st names the block's operation of those that store. -/
def fgG (B : Nat) (st : Nat → Option Nat) (i : Nat) (iv : Nat → Nat × Nat) (w w' : World) : Prop :=
  match st i with
  | none => Below w.heap.size w w'
  | some b => ∃ g, B ≤ g ∧ (iv b).1 ≤ g ∧ g < (iv b).2 ∧ w.grownBy w' (some g)
def fgB (n : Nat) (A U : List (List Nat)) (Uf : List Nat) (st : Nat → Option Nat) (K : Nat → FK) : Bool :=
  (List.range n).all fun i => (match (K i).refs i with | none => true | some l => l.all fun k => decide (k = i) || (A.getD i []).contains k) &&
    (match st i with
    | none => true
    | some b => (A.getD i []).contains b && (List.range n).all fun j => !(fxAfter A i j && fxNeed n A U Uf i j) || (match (K j).refs j with | none => false | some l => l.all fun k => !decide (k = b)))
theorem wp_region_fgk {P : Program} {Q : Exit → Act → World → Prop} {a0 : Act} {id : Nat} {W : World} {l : List Oper} (n : Nat) (A U : List (List Nat)) (Uf : List Nat) (st : Nat → Option Nat) (K : Nat → FK) (hm : P.follows .mixedOrders = true) (hB : fxB l.toArray n A = true) (hU : fxUses n A U = true) (hF : fgB n A U Uf st K = true)
    (hstep : ∀ i o vs iv w, i < n → l.toArray[i]? = some o → Below W.heap.size W w → fxSep (fun k => k ∈ A.getD i []) iv w → (∀ j, j ∈ U.getD i [] → (K j).P vs iv j w) → FxStep P l.toArray o (fxF l.toArray vs fxT a0 i) w fun v w' => w.heap.size ≤ w'.heap.size ∧ (K i).P (fun j => if j = i then v else vs j) (fun j => if j = i then (w.heap.size, w'.heap.size) else iv j) i w' ∧ fgG W.heap.size st i iv w w')
    (hdone : ∀ vs iv w, Below W.heap.size W w → fxSep (fun k => k < n) iv w → (∀ j, j < n → j ∈ Uf → (K j).P vs iv j w) → wpList P l.toArray Q (l.drop n) (fxF l.toArray vs fxT a0 n) w) : (Code.region id l.toArray true).wp P Q a0 W := by
  have hF2 : ∀ i, i < n → (match (K i).refs i with | none => true | some l => l.all fun k => decide (k = i) || (A.getD i []).contains k) = true ∧ (match st i with
    | none => true
    | some b => (A.getD i []).contains b && (List.range n).all fun j => !(fxAfter A i j && fxNeed n A U Uf i j) || (match (K j).refs j with | none => false | some l => l.all fun k => !decide (k = b))) = true := fun i hi => by
    have := List.all_eq_true.1 hF i (List.mem_range.2 hi)
    rwa [Bool.and_eq_true] at this
  have href : ∀ j, j < n → ∀ k, (∃ l, (K j).refs j = some l ∧ k ∈ l) → k = j ∨ k ∈ A.getD j [] := fun j hj k ⟨l, hl, hk⟩ => by
    have := (hF2 j hj).1
    rw [hl] at this
    have h2 := List.all_eq_true.1 this k hk
    rw [Bool.or_eq_true, decide_eq_true_eq] at h2
    rcases h2 with h | h
    · exact .inl h
    · exact .inr (by simpa using h)
  refine wp_region_fxg n A U Uf hm hB hU (fun j vs iv w => (K j).P vs iv j w) (fun i vs iv w w' => fgG W.heap.size st i iv w w') (fun w => Below W.heap.size W w) ((Below.refl _ _).drew) ?_ ?_ ?_ ?_ ?_
  · intro i vs iv w w' hi h hs hg
    unfold fgG at hg
    split at hg
    · exact h.trans (hg.mono h.size)
    · obtain ⟨g, h1, _, _, h2⟩ := hg
      exact Below.grown h h2 h.size (fun k hk => by cases hk; exact h1)
  · intro j vs vs' iv iv' w hj h hp
    exact FK.cong (fun k hk => h k (by rcases hk with rfl | hk; exact .inl rfl; exact href j hj k hk)) hp
  · intro i j vs iv w w' hi hj ha hn h hsp hp hs hg
    unfold fgG at hg
    have hsz : ∀ k, k = j ∨ (∃ l, (K j).refs j = some l ∧ k ∈ l) → (iv k).2 ≤ w.heap.size := fun k hk => by
      have : k = j ∨ k ∈ A.getD j [] := by
        rcases hk with rfl | hk
        · exact .inl rfl
        · exact href j hj k hk
      exact (hsp.1 k (.inr this)).2
    cases hst : st i with
    | none => rw [hst] at hg; exact FK.below hsz hg hp
    | some b =>
      rw [hst] at hg
      obtain ⟨g, h1, h2, h3, h4⟩ := hg
      have hb := (hF2 i hi).2
      rw [hst] at hb
      have hb : ((A.getD i []).contains b && (List.range n).all fun j => !(fxAfter A i j && fxNeed n A U Uf i j) || (match (K j).refs j with | none => false | some l => l.all fun k => !decide (k = b))) = true := hb
      rw [Bool.and_eq_true] at hb
      have hj2 := List.all_eq_true.1 hb.2 j (List.mem_range.2 hj)
      rw [ha, hn] at hj2
      have hj3 : (match (K j).refs j with | none => false | some l => l.all fun k => !decide (k = b)) = true := by simpa using hj2
      cases hl : (K j).refs j with
      | none => rw [hl] at hj3; cases hj3
      | some l =>
        rw [hl] at hj3
        refine FK.store hl (fun k hk => ⟨hsz k (.inr ⟨l, hl, hk⟩), ?_⟩) h2 h3 h4 hp
        have hne : k ≠ b := by simpa using List.all_eq_true.1 hj3 k hk
        exact hsp.2 k b (.inr (href j hj k ⟨l, hl, hk⟩)) (.inl (by simpa using hb.1)) hne
  · intro i o vs iv w hi ho h hsp hd
    exact hstep i o vs iv w hi ho h hsp hd
  · intro vs iv w h hsp hd
    exact hdone vs iv w h hsp hd
end Go.Proofs.YtlbgffhipondiaaGreatDoor.wir.val
namespace Go.Proofs.YtlbgffhipondiaaGreatDoor.wir.val
open Go.RowKit Go.YtlbgffhipondiaaGreatDoor
set_option linter.unusedVariables false
set_option maxRecDepth 100000 in
theorem dagAdd_ok (F : List Int) (n : Nat) (L : List Od) (iv ov pv : Value) (o : Od) (p : Nat) (w : World) (hI : RdI w iv n F) (hF : Bytes F) (hO : RdO w ov L) (hn0 : n ≤ 1000)
    (hfit : ∀ i, i < L.length → (nthO L i).Fit) (hsm : ∀ i, i < L.length → (nthO L i).n ≤ 20) (hG0 : GlobW w) (he0 : ChkG F n L 0) (fo : o.Fit) (hon : o.n ≤ 20) (hp : RdI w pv o.n o.F)
    (hv : verO o = 0) (x : List Int) (hx : shaF (encO o) = x) (hm : memF F n x = false) (ha : allF F n o.F o.n = true) (h60 : L.length < 60) (hP : PlaceAt F n x p) :
    Calls Tryz.prog 18 #[.agg (gC iv ov), .agg (o.c pv)] w fun e w' => ∃ ia ic oa oc, e = .returned (.tuple #[.agg (gC (.slice ia (n + 1) ic) (.slice oa (n + 1) oc)), .agg (u8s x), .int .i64 0]) ∧ Fast w.heap.size w'.heap.size (GrW ia oa (n + 1) ic oc (insF F p x) (insL L p o)) w' ∧ Below w.heap.size w w' := by
  subst hx
  have hn := chk_len he0
  refine (dagAdd_any F n L iv ov pv o 0 w hI hF hO hn0 (by omega) hfit hsm hG0 he0 fo hon hp).mono ?_
  rintro e w' ⟨hD, hb⟩
  have hE : addE F n L o 0 = 0 := by
    unfold addE
    rw [if_neg (by omega), if_neg (by rw [hv]; omega), if_neg (by rw [hm]; decide), if_neg (by rw [ha]; decide), if_neg (by omega)]
  rcases hD with ⟨h, _⟩ | ⟨_, iv', ov', q, h1, h2, h3, h4⟩
  · exact absurd hE h
  · obtain rfl := place_unique hP h1
    obtain ⟨ia, ic, rfl⟩ := ownI_slice h3
    have hr := h4.rd
    obtain ⟨oa, oc, rfl⟩ := hr.slice
    have hl : (insL L p o).length = n + 1 := by rw [insL_length L p o (by have := hP.le; omega)]; omega
    rw [hl] at h2 h4
    exact ⟨ia, ic, oa, oc, h2, (ownI_fast h3).and (ownP_fast h4), hb⟩
set_option maxRecDepth 100000 in
theorem dagAdd_no (F : List Int) (n : Nat) (L : List Od) (iv ov pv : Value) (o : Od) (e0 c : Int) (w : World) (hI : RdI w iv n F) (hF : Bytes F) (hO : RdO w ov L) (hn0 : n ≤ 1000) (hm : L.length ≤ 1000)
    (hfit : ∀ i, i < L.length → (nthO L i).Fit) (hsm : ∀ i, i < L.length → (nthO L i).n ≤ 20) (hG0 : GlobW w) (he0 : ChkG F n L e0) (fo : o.Fit) (hon : o.n ≤ 20) (hp : RdI w pv o.n o.F)
    (hE : addE F n L o e0 = c) (hc : c ≠ 0) :
    Calls Tryz.prog 18 #[.agg (gC iv ov), .agg (o.c pv)] w fun e w' => e = .returned (.tuple #[.agg (gC (.slice none 0 0) (.slice none 0 0)), .agg (u8s (zerosB 32)), .int .i64 c]) ∧ Below w.heap.size w w' := by
  subst hE
  refine (dagAdd_any F n L iv ov pv o e0 w hI hF hO hn0 hm hfit hsm hG0 he0 fo hon hp).mono ?_
  rintro e w' ⟨hD, hb⟩
  rcases hD with ⟨_, h⟩ | ⟨h, _⟩
  · exact ⟨h, hb⟩
  · exact absurd h hc
/-- Ids don't lie in a block of less than 32 cells. -/
theorem offB_small {w : World} {v : Value} {n g : Nat} {F : List Int} {cs : Array Value} {T : TypeId} {fr : Nat × Nat} (h : RdI w v n F) (hg : w.heap[g]? = some (.cells cs T fr)) (hs : cs.size < 32) : OffB (some g) v := by
  intro b o m c e hm hb
  cases hb
  rcases h with ⟨a', c', hv, _, _, _⟩ | ⟨b', o', c', hv, h1, h2, h3, h4, h5⟩
  · rw [hv] at e; cases e; omega
  · rw [hv] at e
    cases e
    have h6 := h5 31 (by omega)
    have h7 : w.cell? ⟨g, o + 31, none⟩ = cs[o + 31]? := cell_of_row _ _ _ _ _ _ hg
    rw [h7, Array.getElem?_eq_none (by omega)] at h6
    cases h6
set_option maxHeartbeats 4000000 in
set_option maxRecDepth 100000 in
theorem signed9_any (a n : Nat) (F : List Int) (ha : 1 ≤ a ∧ a < 500000003) (hn : n ≤ 1) (hF : Bytes F) (pv : Value) (w : World) (hp : RdI w pv n F) (hG0 : GlobW w) :
    Calls Tryz.prog 15 #[.int .u32 (a : Int), pv] w fun e w' => ∃ qa qc, e = .returned (.agg ((s9 a n F).c (.slice qa n qc))) ∧ RdI w' (.slice qa n qc) n F ∧ Below w.heap.size w w' := by
  have hSg := Lib.hid (fun (wz : World) (hb : Below w.heap.size w wz) => (show Calls Tryz.prog 63 #[.int .u32 (a : Int), .agg #[.int .u32 0, pv, .int .u64 1, .int .u8 1, .string ⟨#[]⟩, .int .u8 0, .int .i64 0, .int .u64 0, .string ⟨#[]⟩, .int .u32 0, .int .u32 0]] wz fun e w' => ∃ qa qc, e = .returned (.tuple #[.agg ((s9 a n F).c (.slice qa n qc)), .int .i64 0]) ∧ RdI w' (.slice qa n qc) n F ∧ Below wz.heap.size wz w' from by
    refine (opSign_ok a ha (b9 n F) (b9_fit n F hF hn) pv wz (hp.mono hb) (hG0.mono hb) (b9_bare a n F hn)).mono ?_
    rintro e w' ⟨qv, h1, h2, h3⟩
    obtain ⟨qa, qc, rfl⟩ := h2.slice
    exact ⟨qa, qc, h1, h2, h3⟩))
  obtain ⟨W, hW⟩ : ∃ W, W = w.alloc (.cells (zO.c (.slice none 0 0)) 35) := ⟨_, rfl⟩
  have hS := Lib.hid (show Below w.heap.size w W by rw [hW]; exact below_a w _)
  have r0 := Lib.hid (show W.heap[w.heap.size]? = some (.cells (zO.c (.slice none 0 0)) 35 (0, 0)) by rw [hW]; exact heap_alloc_new w _)
  obtain ⟨pa, pc, rfl⟩ := hp.slice
  clear hp hG0
  obtain ⟨T, hT⟩ : ∃ T, T = s9 a n F := ⟨_, rfl⟩
  rw [← hT] at hSg ⊢
  clear hT
  go_enter Tryz.func15, Tryz.ntmps15
  go_upto_region 1 with fail
  rw [show ∀ y : Array Value, y = zO.c (.slice none 0 0) → w.alloc (.cells y 35) = W from fun y hy => by rw [hy, hW]]
  rotate_left
  · rfl
  clear hW
  go_wp2_with (first
    | (go_at_call 63; (with_reducible refine (hSg.out _ hS.out).mono ?_); rintro e9 w4 ⟨qa, qc, rfl, z1, z2⟩; replace r0 := Lib.hid (rowK r0.out z2); have hq := Lib.hid z1; replace hS := Lib.hid (hS.out.trans (Below.mono z2 hS.out.size)); clear z1 z2)
    | (refine storeNew _ rfl 35 _ _ rfl (T.c (.slice qa n qc)) 35 rfl rfl info_op rfl (op_one T qa n qc) ?_; intro wx hrx hbx; replace r0 := Lib.hid (rowK r0.out hbx); replace hq := Lib.hid (hq.out.mono hbx); replace hS := Lib.hid (hS.out.trans (hbx.mono hS.out.size)); have r1 := Lib.hid hrx; clear hrx hbx)
    | (refine wpList_load_row_g rfl 35 _ rfl w4.heap.size rfl 35 (T.c (.slice qa n qc)) (0, 0) _ r1.out Tryz.underlying35 rfl info_op ?_)
    | (refine storeBut _ w.heap.size _ rfl 35 _ _ rfl (T.c (.slice qa n qc)) 35 r0.out rfl rfl info_op rfl (op_one T qa n qc) ?_; intro w9 hr9 hb9; replace hq := Lib.hid (rdI_grown hq.out (offB_small hq.out r0.out (by decide)) hb9); replace hS := Lib.hid (Below.grown hS.out hb9 hS.out.size (fun k hk => by cases hk; omega)); replace r0 := Lib.hid hr9; clear hr9 hb9))
  exact bodyPost_ret (results_cell_row rfl _ _ w.heap.size 35 _ _ _ rfl r0.out Tryz.underlying35 rfl info_op) rfl ⟨qa, qc, rfl, hq.out, hS.out⟩
end Go.Proofs.YtlbgffhipondiaaGreatDoor.wir.val
namespace Go.Proofs.YtlbgffhipondiaaGreatDoor.wir.val
open Go.RowKit Go.YtlbgffhipondiaaGreatDoor
set_option linter.unusedVariables false
/-- What the calls of the examples answer. -/
structure Al9 (x y : List Int) (o1 o2 : Od) (F2 : List Int) (L2 : List Od) : Prop where
  s1 : ∀ wz, GlobW wz → Calls Tryz.prog 15 #[.int .u32 1, .slice none 0 0] wz fun e w' => ∃ qa qc, e = .returned (.agg (o1.c (.slice qa 0 qc))) ∧ RdI w' (.slice qa 0 qc) 0 [] ∧ Below wz.heap.size wz w'
  s2 : ∀ wz a c, RdI wz (.slice a 1 c) 1 x → GlobW wz → Calls Tryz.prog 15 #[.int .u32 2, .slice a 1 c] wz fun e w' => ∃ qa qc, e = .returned (.agg (o2.c (.slice qa 1 qc))) ∧ RdI w' (.slice qa 1 qc) 1 x ∧ Below wz.heap.size wz w'
  a1 : ∀ wz a c, RdI wz (.slice a 0 c) 0 [] → GlobW wz → Calls Tryz.prog 18 #[.agg #[.slice none 0 0, .slice none 0 0], .agg (o1.c (.slice a 0 c))] wz fun e w' => ∃ ia ic oa oc, e = .returned (.tuple #[.agg (gC (.slice ia 1 ic) (.slice oa 1 oc)), .agg (u8s x), .int .i64 0]) ∧ Fast wz.heap.size w'.heap.size (GrW ia oa 1 ic oc x [o1]) w' ∧ Below wz.heap.size wz w'
  a2 : ∀ wz a c ia0 ic0 oa0 oc0, RdI wz (.slice a 1 c) 1 x → GrW ia0 oa0 1 ic0 oc0 x [o1] wz → GlobW wz → Calls Tryz.prog 18 #[.agg (gC (.slice ia0 1 ic0) (.slice oa0 1 oc0)), .agg (o2.c (.slice a 1 c))] wz fun e w' => ∃ ia ic oa oc, e = .returned (.tuple #[.agg (gC (.slice ia 2 ic) (.slice oa 2 oc)), .agg (u8s y), .int .i64 0]) ∧ Fast wz.heap.size w'.heap.size (GrW ia oa 2 ic oc F2 L2) w' ∧ Below wz.heap.size wz w'
  a3 : ∀ wz a c, RdI wz (.slice a 1 c) 1 x → GlobW wz → Calls Tryz.prog 18 #[.agg #[.slice none 0 0, .slice none 0 0], .agg (o2.c (.slice a 1 c))] wz fun e w' => e = .returned (.tuple #[.agg #[.slice none 0 0, .slice none 0 0], .agg (u8s (zerosB 32)), .int .i64 40]) ∧ Below wz.heap.size wz w'
  a4 : ∀ wz a c ia0 ic0 oa0 oc0, RdI wz (.slice a 0 c) 0 [] → GrW ia0 oa0 2 ic0 oc0 F2 L2 wz → GlobW wz → Calls Tryz.prog 18 #[.agg (gC (.slice ia0 2 ic0) (.slice oa0 2 oc0)), .agg (o1.c (.slice a 0 c))] wz fun e w' => e = .returned (.tuple #[.agg #[.slice none 0 0, .slice none 0 0], .agg (u8s (zerosB 32)), .int .i64 14]) ∧ Below wz.heap.size wz w'
  h5 : ∀ wz ia0 ic0 oa0 oc0, GrW ia0 oa0 2 ic0 oc0 F2 L2 wz → GlobW wz → Calls Tryz.prog 41 #[.agg (gC (.slice ia0 2 ic0) (.slice oa0 2 oc0)), .agg (u8s y)] wz fun e w' => e = .returned (.tuple #[.bool true, .int .i64 0]) ∧ Below wz.heap.size wz w'
theorem s9_small (a n : Nat) (F : List Int) (hn : n ≤ 1) : (s9 a n F).n ≤ 20 := by show n ≤ 20; omega
theorem one_at (P : Od → Prop) (o : Od) (h : P o) : ∀ i, i < [o].length → P (nthO [o] i) := fun i hi => by
  obtain rfl : i = 0 := by simpa using hi
  exact h
theorem ins_at (P : Od → Prop) (L : List Od) (o : Od) (p : Nat) (hp : p ≤ L.length) (hL : ∀ i, i < L.length → P (nthO L i)) (h : P o) : ∀ i, i < (insL L p o).length → P (nthO (insL L p o) i) := fun i hi => by
  rw [insL_length L p o hp] at hi
  rcases sh_cases p i L.length hp hi with rfl | ⟨j, hj, rfl⟩
  · rw [nthO_ins_at L i o hp]; exact h
  · rw [nthO_sh L p o hp]; exact hL j hj
theorem ins_bytes {F x : List Int} {p : Nat} (hF : Bytes F) (hx : Bytes x) : Bytes (insF F p x) := by
  unfold insF
  exact bytes_append _ _ (fun i => by rcases Nat.lt_or_ge i (p * 32) with h | h; rw [ith_take _ _ _ h]; exact hF i; rw [ith_over _ _ (by rw [List.length_take]; omega)]; omega) (bytes_append _ _ hx (bytes_drop _ _ hF))
set_option maxRecDepth 100000 in
theorem al9 : ∃ o1 o2 F2 L2, Al9 x1 x2 o1 o2 F2 L2 := by
  have b1 : Bytes ([] : List Int) := bytes_nil
  have v1 := s9_ver 1 0 [] (Nat.zero_le _)
  have v2 := s9_ver 2 1 x1 (Nat.le_refl _)
  have f1 := s9_fit 1 0 [] b1 (Nat.zero_le _)
  have f2 := s9_fit 2 1 x1 x1_bytes (Nat.le_refl _)
  have e1 := sig1.id
  have e2 := sig2.id
  have m0 : memF [] 0 (shaF (encO (s9 1 0 []))) = false := rfl
  have p0 : PlaceAt [] 0 x1 0 := ⟨Nat.le_refl _, fun k hk => absurd hk (Nat.not_lt_zero _), fun k _ hk => absurd hk (Nat.not_lt_zero _)⟩
  have i0 : idF x1 0 = x1 := by decide
  have p1 : PlaceAt x1 1 x2 0 := ⟨Nat.zero_le _, fun k hk => absurd hk (Nat.not_lt_zero _), fun k _ hk => by
    obtain rfl : k = 0 := by omega
    rw [i0]; decide⟩
  have m1 : memF x1 1 x2 = false := mem_false fun k hk => by
    obtain rfl : k = 0 := by omega
    rw [i0]; exact x1_ne
  have hi0 : insF [] 0 x1 = x1 := by unfold insF; simp
  have c1 : ChkG x1 1 [s9 1 0 []] 0 := by
    have h := chk_ins (F := []) (n := 0) (p := 0) (L := []) (o := s9 1 0 []) rfl chk_none v1 (by rw [e1]; exact p0) m0 rfl (by decide)
    rw [e1, hi0] at h
    exact h
  have a1 : allF x1 1 x1 1 = true := all_iff.2 fun j hj => mem_iff.2 ⟨j, hj, rfl⟩
  have c2 : ChkG (insF x1 0 x2) 2 (insL [s9 1 0 []] 0 (s9 2 1 x1)) 0 := by
    have h := chk_ins (F := x1) (n := 1) (p := 0) (L := [s9 1 0 []]) (o := s9 2 1 x1) rfl c1 v2 (by rw [e2]; exact p1) (by rw [e2]; exact m1) a1 (by decide)
    rw [e2] at h
    exact h
  have z : ∀ w : World, RdI w (.slice none 0 0) 0 [] := fun w => .inl ⟨none, 0, rfl, fun _ => rfl, rfl, rfl⟩
  have zo : ∀ w : World, RdO w (.slice none 0 0) [] := fun w => .inl ⟨none, 0, rfl, fun _ => rfl, rfl⟩
  have ft := one_at Od.Fit (s9 1 0 []) f1
  have sm := one_at (fun o => o.n ≤ 20) (s9 1 0 []) (s9_small 1 0 [] (Nat.zero_le _))
  have ft2 := ins_at Od.Fit [s9 1 0 []] (s9 2 1 x1) 0 (Nat.zero_le _) ft f2
  have sm2 := ins_at (fun o => o.n ≤ 20) [s9 1 0 []] (s9 2 1 x1) 0 (Nat.zero_le _) sm (s9_small 2 1 x1 (Nat.le_refl _))
  have by2 : Bytes (insF x1 0 x2) := ins_bytes x1_bytes x2_bytes
  have mm1 : memF (insF x1 0 x2) 2 x1 = true := mem_ins rfl x2_length (Nat.zero_le _) (mem_iff.2 ⟨0, by decide, i0⟩)
  have mm2 : memF (insF x1 0 x2) 2 x2 = true := mem_iff.2 ⟨0, by decide, idF_ins_at (n := 1) rfl (Nat.zero_le _) x2_length⟩
  have n0 : ∀ i, i < ([] : List Od).length → (nthO [] i).Fit := fun i hi => absurd hi (Nat.not_lt_zero _)
  have n1 : ∀ i, i < ([] : List Od).length → (nthO [] i).n ≤ 20 := fun i hi => absurd hi (Nat.not_lt_zero _)
  refine ⟨s9 1 0 [], s9 2 1 x1, insF x1 0 x2, insL [s9 1 0 []] 0 (s9 2 1 x1), ⟨?_, ?_, ?_, ?_, ?_, ?_, ?_⟩⟩
  · intro wz hg
    exact signed9_any 1 0 [] (by decide) (Nat.zero_le _) b1 (.slice none 0 0) wz (z wz) hg
  · intro wz a c h hg
    exact signed9_any 2 1 x1 (by decide) (Nat.le_refl _) x1_bytes (.slice a 1 c) wz h hg
  · intro wz a c h hg
    have k := dagAdd_ok [] 0 [] (.slice none 0 0) (.slice none 0 0) (.slice a 0 c) (s9 1 0 []) 0 wz (z wz) b1 (zo wz) (by decide) n0 n1 hg chk_none f1 (s9_small 1 0 [] (Nat.zero_le _)) h v1 x1 e1 rfl rfl (by decide) p0
    rw [hi0] at k
    exact k
  · intro wz a c ia ic oa oc h hgr hg
    exact dagAdd_ok x1 1 [s9 1 0 []] (.slice ia 1 ic) (.slice oa 1 oc) (.slice a 1 c) (s9 2 1 x1) 0 wz hgr.1 x1_bytes hgr.2 (by decide) ft sm hg c1 f2 (s9_small 2 1 x1 (Nat.le_refl _)) h v2 x2 e2 m1 a1 (by decide) p1
  · intro wz a c h hg
    refine dagAdd_no [] 0 [] (.slice none 0 0) (.slice none 0 0) (.slice a 1 c) (s9 2 1 x1) 0 40 wz (z wz) b1 (zo wz) (by decide) (by decide) n0 n1 hg chk_none f2 (s9_small 2 1 x1 (Nat.le_refl _)) h ?_ (by decide)
    unfold addE
    rw [if_neg (by omega), if_neg (by rw [v2]; omega), if_neg (by rw [show memF [] 0 (shaF (encO (s9 2 1 x1))) = false from rfl]; decide), if_pos (show allF [] 0 (s9 2 1 x1).F (s9 2 1 x1).n = false from rfl)]
  · intro wz a c ia ic oa oc h hgr hg
    refine dagAdd_no (insF x1 0 x2) 2 (insL [s9 1 0 []] 0 (s9 2 1 x1)) (.slice ia 2 ic) (.slice oa 2 oc) (.slice a 0 c) (s9 1 0 []) 0 14 wz hgr.1 by2 hgr.2 (by decide) (by decide) ft2 sm2 hg c2 f1 (s9_small 1 0 [] (Nat.zero_le _)) h ?_ (by decide)
    unfold addE
    rw [if_neg (by omega), if_neg (by rw [v1]; omega), if_pos (by rw [e1]; exact mm1)]
  · intro wz ia ic oa oc hgr hg
    have k := dagHas_any (insF x1 0 x2) 2 (insL [s9 1 0 []] 0 (s9 2 1 x1)) (.slice ia 2 ic) (.slice oa 2 oc) x2 0 wz hgr.1 by2 hgr.2 (by decide) (by decide) ft2 hg c2 x2_length x2_bytes
    rw [mm2] at k
    exact k
end Go.Proofs.YtlbgffhipondiaaGreatDoor.wir.val

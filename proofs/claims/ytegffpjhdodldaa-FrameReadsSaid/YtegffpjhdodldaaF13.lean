/- Layer 7: strings that are read: contract of the reference. -/
import Derived.Test.YtegffpjhdodldaaF12
import Derived.Test.YtegffpjhdodldaaL01
namespace Go.Proofs.Ytegffpjhdodldaa
open Go.RowKit Go.Ytegffpjhdodldaa
set_option linter.unusedVariables false
def rstrPost (w : World) (b : List Int) (e : Ending) (w' : World) : Prop :=
  Below w.heap.size w w' ∧ (readS b = none → e = .returned (.tuple #[.slice none 0 0, .bool false])) ∧ ∀ L u, readS b = some (L, u) → ∃ v, e = .returned (.tuple #[v, .bool (decide (u = b.length))]) ∧ OwnL w.heap.size 5 29 w' v L
set_option maxHeartbeats 4000000 in
set_option maxRecDepth 100000 in
theorem rstrings_any (b : List Int) (bv : Value) (w : World) (hr : RdB w bv b) (hb : Bytes b) (hl : b.length ≤ 100000) :
    Calls Try.prog 36 #[bv] w (rstrPost w b) := by
  have hn := rreadNumber_any b bv w hr hb (by omega)
  cases hre : readF b with
  | none =>
    obtain ⟨e1, e2, e3⟩ := rd_none hre
    rw [e1, e2, e3] at hn
    have hs := Lib.hid (readS_no hre)
    have hn' := Lib.hid hn
    obtain ⟨a, c, rfl⟩ := hr.slice
    generalize hp : rstrPost w b = PO at *
    have hp' := Lib.hid hp
    clear hn hr hb hl hre e1 e2 e3 hp
    generalize b.length = NB at *
    go_enter Try.func36, Try.ntmps36
    go_wp2_with (go_at_call 37; (with_reducible refine (hn'.out).mono ?_); rintro e w1 ⟨rfl, q2⟩; have hB1 := Lib.hid q2; clear q2)
    rw [← hp'.out]
    exact ⟨hB1.out, fun _ => rfl, fun L u h => by rw [hs.out] at h; cases h⟩
  | some p =>
    obtain ⟨n, u⟩ := p
    obtain ⟨e1, e2, e3⟩ := rd_some hre
    obtain ⟨hn64, hu, hul, _⟩ := readF_some hb hre
    rw [e1, e2, e3] at hn
    have hn' := Lib.hid hn
    by_cases h8 : 8 < n
    · have hs := Lib.hid (readS_many hre h8)
      obtain ⟨a, c, rfl⟩ := hr.slice
      generalize hp : rstrPost w b = PO at *
      have hp' := Lib.hid hp
      clear hn hr hb hl hre e1 e2 e3 hp hul hu
      generalize b.length = NB at *
      go_enter Try.func36, Try.ntmps36
      go_wp2_with (go_at_call 37; (with_reducible refine (hn'.out).mono ?_); rintro e w1 ⟨rfl, q2⟩; have hB1 := Lib.hid q2; clear q2)
      rw [← hp'.out]
      exact ⟨hB1.out, fun _ => rfl, fun L u h => by rw [hs.out] at h; cases h⟩
    · have hu1 := numL_pos n
      rw [← hu] at hu1
      rcases hr with ⟨a, c, rfl, _, rfl⟩ | ⟨bb, o, c, rfl, r1, r2, r3, r4⟩
      · simp at hul; omega
      have hrd : RdB w (.slice (some ⟨bb, o, none⟩) b.length c) b := .inr ⟨bb, o, c, rfl, r1, r2, r3, r4⟩
      have hgone := Lib.hid (fun h => readS_gone hre h8 h)
      have hyes := Lib.hid (fun L v h => readS_yes (L := L) (v := v) hre h8 h)
      have hgo := Lib.hid (fun (k : Nat) (h : readT (b.drop u) k = none) (hk : k ≤ n) => readT_gone h n hk)
      have hbb := Lib.hid hb
      have hback := Lib.hid (fun k L x h => readT_back (bytes_drop b u hb) k L x h)
      obtain ⟨NB, hNB⟩ : ∃ NB, b.length = NB := ⟨_, rfl⟩
      have hNB' := Lib.hid hNB
      rw [hNB] at hn' hrd hl hul r1 ⊢
      have hrr := rdB_from hrd hNB u hul
      generalize hp : rstrPost w b = PO at *
      have hp' := Lib.hid hp
      have h8' : (n : Int) ≤ 8 := by omega
      clear hn hrd hb hre e1 e2 e3 hp hNB r4 hu
      unfold maxLen at r2
      rcases Decidable.em (c = u) with rfl | hcU
      · have hr1 := Lib.hid (hrr.1 rfl)
        clear hrr
        go_enter Try.func36, Try.ntmps36
        go_wp2_with (go_at_call 37; (with_reducible refine (hn'.out).mono ?_); rintro e w1 ⟨rfl, q2⟩; have hB1 := Lib.hid q2; clear q2)
        go_loopw [0, 7, 8] (fun bx o i wr => ∃ (k v : Nat) (L : List (List Int)), k ≤ n ∧ i = .int .u64 k ∧ RdB w bx (b.drop (c + v)) ∧ readT (b.drop c) k = some (L, v) ∧ Below w.heap.size w wr ∧ OwnL w.heap.size 5 29 wr o L) (fun _ _ i _ => n - (intOf i).toNat)
        case atStart => exact ⟨0, 0, [], Nat.zero_le _, rfl, hr1.out, rfl, hB1.out, OwnL.nil _ _ _ _⟩
        case round =>
          obtain ⟨k, v, L, hk, rfl, hrb0, hT, hBr, ho⟩ := hrel
          have hrb := hrb0.mono hBr
          obtain ⟨b1, b2, _, _, _⟩ := hback.out k L v hT
          rw [List.length_drop, hNB'.out] at b2
          have hLk := Lib.hid b1
          have hBr' := Lib.hid hBr
          have ho' := Lib.hid ho
          obtain ⟨U, hU⟩ : ∃ U, c + v = U := ⟨_, rfl⟩
          have hdd : (b.drop c).drop v = b.drop U := by rw [List.drop_drop, hU]
          rw [hU] at hrb hrb0
          have hUn : U ≤ NB := by omega
          have hlD : (b.drop U).length = NB - U := by rw [List.length_drop, hNB'.out]
          obtain ⟨D, hD⟩ : ∃ D, NB - U = D := ⟨_, rfl⟩
          rw [hD] at hlD
          obtain ⟨oa, oc, rfl⟩ := ho.slice
          by_cases hlt : k < n
          · have hbd := bytes_drop b U hbb.out
            have hdl : (b.drop U).length ≤ 1000000 := by rw [hlD]; omega
            have hlt2 : (k : Int) < (n : Int) := by omega
            cases hq : readC (b.drop U) 400 1 with
            | none =>
              have hs := Lib.hid (hgone.out (hgo.out (k + 1) (readT_none hT (by rw [hdd]; exact hq)) (by omega)))
              have hno := Lib.hid (rreadBytes_no (b.drop U) _ 400 (by decide) (by decide) wr hrb hbd hdl hq)
              obtain ⟨ra, rc, rfl⟩ := hrb.slice
              rw [hlD] at hno ⊢
              clear hrb hrb0 hT ho hBr hq hbd hdl hdd hU b1 b2 hgone hyes hgo hback hlD
              go_wp2_with (go_at_call 51; (with_reducible refine (hno.out).mono ?_); rintro e w5 ⟨rfl, q2⟩; replace hBr' := Lib.hid (hBr'.out.trans (q2.mono hBr'.out.size)); clear q2)
              rw [← hp'.out]
              exact ⟨hBr'.out, fun _ => rfl, fun L u h => by rw [hs.out] at h; cases h⟩
            | some q =>
              obtain ⟨m, x⟩ := q
              have hT1 := Lib.hid (readT_step hT (by rw [hdd]; exact hq))
              rw [hdd] at hT1
              obtain ⟨r1', r2', r3', r4', r5'⟩ := readC_backG hbd hq
              have hok := Lib.hid (rreadBytes_ok (b.drop U) _ 400 (by decide) (by decide) wr hrb hbd hdl m x hq)
              rw [hlD] at r4'
              rcases hrb with ⟨_, _, _, _, h0⟩ | ⟨xb, xo, xc, rfl, x1, x2, x3, x4⟩
              · rw [h0] at hlD; simp at hlD; omega
              rw [hlD] at hok hrb0 x1 ⊢
              obtain ⟨V, hV⟩ : ∃ V, x + m = V := ⟨_, rfl⟩
              rw [hV] at hok hT1 r4'
              have hl1 := Lib.hid r2'
              have hnx0 := rdB_from hrb0 hlD V r4'
              rw [List.drop_drop] at hnx0
              have hnx := Lib.hid hnx0
              clear hnx0 hrb0
              have hfin := Lib.hid (show U + V = c + (v + V) by omega)
              generalize ((b.drop U).drop x).take m = l1 at *
              have hwr : IntKind.u64.wrap ((k : Int) + 1) = (k : Int) + 1 := IntWalk.u64_in _ (by omega)
              clear hT ho hBr hq hbd hdl hdd hU hgone hyes hgo hback r1' r2' r3' r5' hV b1 b2 x4 x3 hD hlD
              unfold maxLen at x2
              rcases Decidable.em (xc = V) with rfl | hcV
              · go_wp2_with (first
                  | (go_at_call 51; (with_reducible refine (hok.out).mono ?_); rintro e w5 ⟨sv, rfl, q1, q2⟩; have hB5 := Lib.hid (hBr'.out.trans (q2.mono hBr'.out.size)); have ho1 := Lib.hid (ho'.out.kept q2); have hs1 := Lib.hid (q1.mono hBr'.out.size); obtain ⟨sa, sc, rfl⟩ := own_slice q1 m hl1.out; clear q1 q2)
                  | (refine appendL rfl _ _ 24 rfl w.heap.size 5 29 Try.underlying24 (by kernel_rfl) (by decide) _ rfl L (ho1.out.kept (below_a w5 (.cells #[.slice sa m sc] 29))) w5.heap.size 1 rfl (.slice sa m sc) 29 (heap_alloc_new w5 _) l1 (hs1.out.kept (below_a w5 (.cells #[.slice sa m sc] 29))) (by have := hLk.out; omega) (by have := hB5.out.size; simp; omega) ?_))
                intro v6 w6 h1 h2
                have hB6 := Lib.hid ((hB5.out.alloc hB5.out.size (.cells #[.slice sa m sc] 29)).trans h2)
                have ho6 := Lib.hid h1
                clear h1 h2
                refine Stop.go ?_
                go_wp2
                go_roundw
                case rel => exact ⟨k + 1, v + xc, L ++ [l1], by omega, by go_num, by rw [← hfin.out]; exact hnx.out.1 (by simp), hT1.out, hB6.out, ho6.out⟩
                case measure => simp [intOf]; omega
              · go_wp2_with (first
                  | (go_at_call 51; (with_reducible refine (hok.out).mono ?_); rintro e w5 ⟨sv, rfl, q1, q2⟩; have hB5 := Lib.hid (hBr'.out.trans (q2.mono hBr'.out.size)); have ho1 := Lib.hid (ho'.out.kept q2); have hs1 := Lib.hid (q1.mono hBr'.out.size); obtain ⟨sa, sc, rfl⟩ := own_slice q1 m hl1.out; clear q1 q2)
                  | (refine appendL rfl _ _ 24 rfl w.heap.size 5 29 Try.underlying24 (by kernel_rfl) (by decide) _ rfl L (ho1.out.kept (below_a w5 (.cells #[.slice sa m sc] 29))) w5.heap.size 1 rfl (.slice sa m sc) 29 (heap_alloc_new w5 _) l1 (hs1.out.kept (below_a w5 (.cells #[.slice sa m sc] 29))) (by have := hLk.out; omega) (by have := hB5.out.size; simp; omega) ?_))
                intro v6 w6 h1 h2
                have hB6 := Lib.hid ((hB5.out.alloc hB5.out.size (.cells #[.slice sa m sc] 29)).trans h2)
                have ho6 := Lib.hid h1
                clear h1 h2
                refine Stop.go ?_
                go_wp2
                go_roundw
                case rel => exact ⟨k + 1, v + V, L ++ [l1], by omega, by go_num, by rw [← hfin.out]; exact hnx.out.2 hcV, hT1.out, hB6.out, ho6.out⟩
                case measure => simp [intOf]; omega
          · obtain rfl : k = n := by omega
            have hs := Lib.hid (hyes.out L v hT)
            rw [hU] at hs
            obtain ⟨ra, rc, rfl⟩ := hrb.slice
            rw [hlD]
            have hfl := Lib.hid (show ((D : Int) == 0) = decide (U = NB) by rw [Bool.eq_iff_iff, beq_iff_eq, decide_eq_true_eq]; omega)
            clear hrb hrb0 hT hdd hU b1 b2 hgone hyes hgo hback hlD hD
            go_wp2
            rw [← hp'.out]
            refine ⟨hBr'.out, (fun h => by rw [hs.out] at h; cases h), fun L' u' h => ?_⟩
            rw [hs.out] at h
            cases h
            exact ⟨_, by rw [hNB'.out, ← hfl.out]; rfl, ho'.out⟩
      · have hr1 := Lib.hid (hrr.2 hcU)
        clear hrr
        go_enter Try.func36, Try.ntmps36
        go_wp2_with (go_at_call 37; (with_reducible refine (hn'.out).mono ?_); rintro e w1 ⟨rfl, q2⟩; have hB1 := Lib.hid q2; clear q2)
        go_loopw [0, 7, 8] (fun bx o i wr => ∃ (k v : Nat) (L : List (List Int)), k ≤ n ∧ i = .int .u64 k ∧ RdB w bx (b.drop (u + v)) ∧ readT (b.drop u) k = some (L, v) ∧ Below w.heap.size w wr ∧ OwnL w.heap.size 5 29 wr o L) (fun _ _ i _ => n - (intOf i).toNat)
        case atStart => exact ⟨0, 0, [], Nat.zero_le _, rfl, hr1.out, rfl, hB1.out, OwnL.nil _ _ _ _⟩
        case round =>
          obtain ⟨k, v, L, hk, rfl, hrb0, hT, hBr, ho⟩ := hrel
          have hrb := hrb0.mono hBr
          obtain ⟨b1, b2, _, _, _⟩ := hback.out k L v hT
          rw [List.length_drop, hNB'.out] at b2
          have hLk := Lib.hid b1
          have hBr' := Lib.hid hBr
          have ho' := Lib.hid ho
          obtain ⟨U, hU⟩ : ∃ U, u + v = U := ⟨_, rfl⟩
          have hdd : (b.drop u).drop v = b.drop U := by rw [List.drop_drop, hU]
          rw [hU] at hrb hrb0
          have hUn : U ≤ NB := by omega
          have hlD : (b.drop U).length = NB - U := by rw [List.length_drop, hNB'.out]
          obtain ⟨D, hD⟩ : ∃ D, NB - U = D := ⟨_, rfl⟩
          rw [hD] at hlD
          obtain ⟨oa, oc, rfl⟩ := ho.slice
          by_cases hlt : k < n
          · have hbd := bytes_drop b U hbb.out
            have hdl : (b.drop U).length ≤ 1000000 := by rw [hlD]; omega
            have hlt2 : (k : Int) < (n : Int) := by omega
            cases hq : readC (b.drop U) 400 1 with
            | none =>
              have hs := Lib.hid (hgone.out (hgo.out (k + 1) (readT_none hT (by rw [hdd]; exact hq)) (by omega)))
              have hno := Lib.hid (rreadBytes_no (b.drop U) _ 400 (by decide) (by decide) wr hrb hbd hdl hq)
              obtain ⟨ra, rc, rfl⟩ := hrb.slice
              rw [hlD] at hno ⊢
              clear hrb hrb0 hT ho hBr hq hbd hdl hdd hU b1 b2 hgone hyes hgo hback hlD
              go_wp2_with (go_at_call 51; (with_reducible refine (hno.out).mono ?_); rintro e w5 ⟨rfl, q2⟩; replace hBr' := Lib.hid (hBr'.out.trans (q2.mono hBr'.out.size)); clear q2)
              rw [← hp'.out]
              exact ⟨hBr'.out, fun _ => rfl, fun L u h => by rw [hs.out] at h; cases h⟩
            | some q =>
              obtain ⟨m, x⟩ := q
              have hT1 := Lib.hid (readT_step hT (by rw [hdd]; exact hq))
              rw [hdd] at hT1
              obtain ⟨r1', r2', r3', r4', r5'⟩ := readC_backG hbd hq
              have hok := Lib.hid (rreadBytes_ok (b.drop U) _ 400 (by decide) (by decide) wr hrb hbd hdl m x hq)
              rw [hlD] at r4'
              rcases hrb with ⟨_, _, _, _, h0⟩ | ⟨xb, xo, xc, rfl, x1, x2, x3, x4⟩
              · rw [h0] at hlD; simp at hlD; omega
              rw [hlD] at hok hrb0 x1 ⊢
              obtain ⟨V, hV⟩ : ∃ V, x + m = V := ⟨_, rfl⟩
              rw [hV] at hok hT1 r4'
              have hl1 := Lib.hid r2'
              have hnx0 := rdB_from hrb0 hlD V r4'
              rw [List.drop_drop] at hnx0
              have hnx := Lib.hid hnx0
              clear hnx0 hrb0
              have hfin := Lib.hid (show U + V = u + (v + V) by omega)
              generalize ((b.drop U).drop x).take m = l1 at *
              have hwr : IntKind.u64.wrap ((k : Int) + 1) = (k : Int) + 1 := IntWalk.u64_in _ (by omega)
              clear hT ho hBr hq hbd hdl hdd hU hgone hyes hgo hback r1' r2' r3' r5' hV b1 b2 x4 x3 hD hlD
              unfold maxLen at x2
              rcases Decidable.em (xc = V) with rfl | hcV
              · go_wp2_with (first
                  | (go_at_call 51; (with_reducible refine (hok.out).mono ?_); rintro e w5 ⟨sv, rfl, q1, q2⟩; have hB5 := Lib.hid (hBr'.out.trans (q2.mono hBr'.out.size)); have ho1 := Lib.hid (ho'.out.kept q2); have hs1 := Lib.hid (q1.mono hBr'.out.size); obtain ⟨sa, sc, rfl⟩ := own_slice q1 m hl1.out; clear q1 q2)
                  | (refine appendL rfl _ _ 24 rfl w.heap.size 5 29 Try.underlying24 (by kernel_rfl) (by decide) _ rfl L (ho1.out.kept (below_a w5 (.cells #[.slice sa m sc] 29))) w5.heap.size 1 rfl (.slice sa m sc) 29 (heap_alloc_new w5 _) l1 (hs1.out.kept (below_a w5 (.cells #[.slice sa m sc] 29))) (by have := hLk.out; omega) (by have := hB5.out.size; simp; omega) ?_))
                intro v6 w6 h1 h2
                have hB6 := Lib.hid ((hB5.out.alloc hB5.out.size (.cells #[.slice sa m sc] 29)).trans h2)
                have ho6 := Lib.hid h1
                clear h1 h2
                refine Stop.go ?_
                go_wp2
                go_roundw
                case rel => exact ⟨k + 1, v + xc, L ++ [l1], by omega, by go_num, by rw [← hfin.out]; exact hnx.out.1 (by simp), hT1.out, hB6.out, ho6.out⟩
                case measure => simp [intOf]; omega
              · go_wp2_with (first
                  | (go_at_call 51; (with_reducible refine (hok.out).mono ?_); rintro e w5 ⟨sv, rfl, q1, q2⟩; have hB5 := Lib.hid (hBr'.out.trans (q2.mono hBr'.out.size)); have ho1 := Lib.hid (ho'.out.kept q2); have hs1 := Lib.hid (q1.mono hBr'.out.size); obtain ⟨sa, sc, rfl⟩ := own_slice q1 m hl1.out; clear q1 q2)
                  | (refine appendL rfl _ _ 24 rfl w.heap.size 5 29 Try.underlying24 (by kernel_rfl) (by decide) _ rfl L (ho1.out.kept (below_a w5 (.cells #[.slice sa m sc] 29))) w5.heap.size 1 rfl (.slice sa m sc) 29 (heap_alloc_new w5 _) l1 (hs1.out.kept (below_a w5 (.cells #[.slice sa m sc] 29))) (by have := hLk.out; omega) (by have := hB5.out.size; simp; omega) ?_))
                intro v6 w6 h1 h2
                have hB6 := Lib.hid ((hB5.out.alloc hB5.out.size (.cells #[.slice sa m sc] 29)).trans h2)
                have ho6 := Lib.hid h1
                clear h1 h2
                refine Stop.go ?_
                go_wp2
                go_roundw
                case rel => exact ⟨k + 1, v + V, L ++ [l1], by omega, by go_num, by rw [← hfin.out]; exact hnx.out.2 hcV, hT1.out, hB6.out, ho6.out⟩
                case measure => simp [intOf]; omega
          · obtain rfl : k = n := by omega
            have hs := Lib.hid (hyes.out L v hT)
            rw [hU] at hs
            obtain ⟨ra, rc, rfl⟩ := hrb.slice
            rw [hlD]
            have hfl := Lib.hid (show ((D : Int) == 0) = decide (U = NB) by rw [Bool.eq_iff_iff, beq_iff_eq, decide_eq_true_eq]; omega)
            clear hrb hrb0 hT hdd hU b1 b2 hgone hyes hgo hback hlD hD
            go_wp2
            rw [← hp'.out]
            refine ⟨hBr'.out, (fun h => by rw [hs.out] at h; cases h), fun L' u' h => ?_⟩
            rw [hs.out] at h
            cases h
            exact ⟨_, by rw [hNB'.out, ← hfl.out]; rfl, ho'.out⟩
end Go.Proofs.Ytegffpjhdodldaa

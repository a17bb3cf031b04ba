/- Layer 7: contracts of package frame: kinds, ids that increase, strings that are short enough. -/
import Derived.Test.YtegffpjhdodldaaF02
namespace Go.Proofs.Ytegffpjhdodldaa
open Go.RowKit Go.Ytegffpjhdodldaa
set_option linter.unusedVariables false
theorem rowB {B : Nat} {w w' : World} {g : Nat} {b : Obj} (h : w.heap[g]? = some b) (hb : Below B w w') (hg : g < B) : w'.heap[g]? = some b := by
  rw [hb.block g hg]; exact h
theorem below_a (w : World) (o : Obj) : Below w.heap.size w (w.alloc o) := (Below.refl _ _).alloc (Nat.le_refl _) o
theorem hasNumber_any (k : Int) (w : World) :
    Calls Try.prog 39 #[.int .u8 k] w fun e w' => e = .returned (.bool (numK k)) ∧ w = w' := by
  by_cases h1 : k = 1
  · subst h1
    go_enter Try.func39, Try.ntmps39
    go_wp2
    go_ret
    exact ⟨rfl, rfl⟩
  · by_cases h6 : k = 6
    · subst h6
      go_enter Try.func39, Try.ntmps39
      go_wp2
      go_ret
      exact ⟨rfl, rfl⟩
    · have e := Lib.hid (show numK k = (k == 1 || k == 6) from rfl)
      generalize numK k = R at *
      go_enter Try.func39, Try.ntmps39
      go_wp2
      go_ret
      exact ⟨ret_bool e.out.symm, rfl⟩
theorem hasIDs_any (k : Int) (w : World) :
    Calls Try.prog 30 #[.int .u8 k] w fun e w' => e = .returned (.bool (idsK k)) ∧ w = w' := by
  by_cases h1 : k = 2 ∨ k = 3 ∨ k = 4
  · rcases h1 with rfl | rfl | rfl
    all_goals
      go_enter Try.func30, Try.ntmps30
      go_wp2
      go_ret
      exact ⟨rfl, rfl⟩
  · have k2 : ¬ k = 2 := fun h => h1 (.inl h)
    have k3 : ¬ k = 3 := fun h => h1 (.inr (.inl h))
    have k4 : ¬ k = 4 := fun h => h1 (.inr (.inr h))
    have e := Lib.hid (show idsK k = (k == 2 || k == 3 || k == 4) by rw [Bool.or_assoc]; rfl)
    generalize idsK k = R at *
    clear h1
    go_enter Try.func30, Try.ntmps30
    go_wp2
    go_ret
    exact ⟨ret_bool e.out.symm, rfl⟩
set_option maxRecDepth 100000 in
theorem listed_any (k : Int) (w : World) :
    Calls Try.prog 22 #[.int .u8 k] w fun e w' => e = .returned (.bool (idsK k)) ∧ w = w' := by
  by_cases h1 : k = 2 ∨ k = 3 ∨ k = 4
  · rcases h1 with rfl | rfl | rfl
    all_goals
      go_enter Try.func22, Try.ntmps22
      go_wp2
      go_ret
      exact ⟨rfl, rfl⟩
  · have k2 : ¬ k = 2 := fun h => h1 (.inl h)
    have k3 : ¬ k = 3 := fun h => h1 (.inr (.inl h))
    have k4 : ¬ k = 4 := fun h => h1 (.inr (.inr h))
    have e := Lib.hid (show idsK k = (k == 2 || k == 3 || k == 4) by rw [Bool.or_assoc]; rfl)
    generalize idsK k = R at *
    clear h1
    go_enter Try.func22, Try.ntmps22
    go_wp2
    go_ret
    exact ⟨ret_bool e.out.symm, rfl⟩
set_option maxRecDepth 100000 in
theorem frIncrease_any (F : List Int) (n : Nat) (v : Value) (w : World) (hr : RdI w v n F) (hF : Bytes F) (hn : n ≤ 100000) :
    Calls Try.prog 31 #[v] w fun e w' => e = .returned (.bool (riseF F n)) ∧ Below w.heap.size w w' := by
  have hlen := Lib.hid hr.len
  obtain ⟨a, c, rfl⟩ := hr.slice
  have hr' := Lib.hid hr; have hF' := Lib.hid hF
  clear hr hF
  go_enter Try.func31, Try.ntmps31
  go_wp2
  go_loopw [7] (fun i wr => ∃ k : Nat, (k = 0 ∨ k + 1 ≤ n) ∧ i = .int .i64 k ∧ Below w.heap.size w wr ∧ ∀ j, j < k → cmpF (idF F j) (idF F (j + 1)) < 0) (fun i _ => n - (intOf i).toNat)
  case atStart => exact ⟨0, .inl rfl, rfl, Below.refl _ _, fun j hj => absurd hj (Nat.not_lt_zero _)⟩
  case round =>
    obtain ⟨k, hk, rfl, hb, he⟩ := hrel
    have he' := Lib.hid he; have hb' := Lib.hid hb
    clear he hb
    by_cases hlt : k + 1 < n
    · obtain ⟨b, o, rfl, hbw, hnc, q1, _⟩ := rdI_at hr'.out hb'.out k (by omega)
      obtain ⟨b2, o2, hab, _, _, q2, _⟩ := rdI_at hr'.out hb'.out (k + 1) hlt
      cases hab
      have q1' := Lib.hid q1; have q2' := Lib.hid q2
      have l1 := Lib.hid (idF_length F n k hlen.out (by omega))
      have l2 := Lib.hid (idF_length F n (k + 1) hlen.out hlt)
      have hc := Lib.hid (fun wi => cmp_any (idF F k) (idF F (k + 1)) wi l1.out l2.out (idF_bytes F k hF'.out) (idF_bytes F (k + 1) hF'.out))
      have hno := Lib.hid (fun h => rise_no (F := F) (n := n) k hlt h)
      have hyes := Lib.hid (fun (h : cmpF (idF F k) (idF F (k + 1)) < 0) => (show ∀ j, j < k + 1 → cmpF (idF F j) (idF F (j + 1)) < 0 from fun j hj => by
        rcases Nat.lt_or_ge j k with h1 | h1
        · exact he'.out j h1
        · obtain rfl : j = k := by omega
          exact h))
      clear q1 q2 he' hk
      generalize idF F (k + 1) = B at *
      generalize idF F k = A at *
      generalize cmpF A B = T at *
      have x1 : IntKind.i64.wrap ((k : Int) + 1) = (k : Int) + 1 := IntWalk.i64_in _ (by omega)
      have x2 : (0 : Int) ≤ (k : Int) + 1 := by omega
      have x3 : ((k : Int) + 1).toNat = k + 1 := by omega
      have x4 : (k : Int) + 1 < (n : Int) := by omega
      have x5 : k < n := by omega
      have i1 : Hid ((Try.prog.info? 58).map (·.size) = some (idV A).length) := Lib.hid (by rw [idV_length, l1.out]; kernel_rfl)
      have i2 : Hid ((Try.prog.info? 58).map (·.size) = some (idV B).length) := Lib.hid (by rw [idV_length, l2.out]; kernel_rfl)
      go_wp2
      refine wp_region_headN (C := fun w' => ∃ n, w' = wr.drewN n) 9 [] (by kernel_rfl) (by kernel_rfl) ⟨1, rfl⟩ ?_
      simp only [List.take_succ_cons, List.take_zero, List.drop_succ_cons, List.drop_zero]
      iterate 3 (refine head_walk (by rfl) (fun K hK => ?_); go_simp; refine hK _ ?_; clear hK K)
      refine head_step (.agg (u8s A)) (by rfl) (qa_load_mid 58 _ rfl b (o + k * 32) rfl A _ Try.underlying58 rfl i1.out (fun w' ⟨n, h⟩ => h ▸ range_drewN q1'.out n)) (by rfl) rfl (fun K hK => ?_)
      go_simp
      refine hK _ ?_
      clear hK K
      iterate 4 (refine head_walk (by rfl) (fun K hK => ?_); go_simp; refine hK _ ?_; clear hK K)
      refine head_step (.agg (u8s B)) (by rfl) (qa_load_mid 58 _ rfl b (o + (k + 1) * 32) rfl B _ Try.underlying58 rfl i2.out (fun w' ⟨n, h⟩ => h ▸ range_drewN q2'.out n)) (by rfl) rfl (fun K hK => ?_)
      go_simp
      refine hK _ ?_
      clear hK K
      refine head_nil ?_
      rintro w' ⟨nz, rfl⟩
      clear x1 x2 x3 x4
      have hbz := Lib.hid (((Draws.refl wr).drewN nz).below hb'.out)
      go_wp2_with (go_at_call 46; (with_reducible refine (hc.out _).mono ?_); rintro e w2 ⟨rfl, hb2⟩; have hB2 := Lib.hid (hbz.out.trans (hb2.mono hbz.out.size)); clear hb2)
      refine NoPanic.normal ?_
      by_cases hT : T < 0
      · have hh := Lib.hid (hyes.out hT)
        go_wp2
        go_roundw
        case rel => exact ⟨k + 1, .inr (by omega), by go_num, hB2.out, hh.out⟩
        case measure => simp [intOf]; omega
      · have hh := Lib.hid (hno.out (by omega))
        go_wp2
        go_ret
        exact ⟨ret_bool hh.out.symm, hB2.out⟩
    · have hh := Lib.hid (rise_yes (F := F) (n := n) (fun i hi => he'.out i (by rcases hk with h | h <;> omega)))
      have hk' : ¬ (k : Int) < (n : Int) - 1 := by omega
      go_wp2
      go_ret
      exact ⟨ret_bool hh.out.symm, hb'.out⟩
set_option maxRecDepth 100000 in
theorem validStrings_any (L : List (List Int)) (v : Value) (w : World) (hr : RdS w v L) (hn : L.length ≤ 100000) :
    Calls Try.prog 47 #[v] w fun e w' => e = .returned (.bool (okL L)) ∧ w = w' := by
  obtain ⟨a, c, rfl⟩ := hr.slice
  have hr' := Lib.hid hr
  clear hr
  by_cases h8 : 8 < L.length
  · have e := Lib.hid (show okL L = false by unfold okL; rw [decide_eq_false (by omega)]; rfl)
    generalize okL L = R at *
    generalize L.length = n at *
    clear hr'
    go_enter Try.func47, Try.ntmps47
    go_wp2
    go_ret
    exact ⟨ret_bool e.out.symm, rfl⟩
  · have hyes := Lib.hid (fun h : okS L = true => (show okL L = true by unfold okL; rw [decide_eq_true (by omega), h]; rfl))
    have hno := Lib.hid (fun h : okS L = false => (show okL L = false by unfold okL; rw [h, Bool.and_false]))
    generalize okL L = R at *
    go_enter Try.func47, Try.ntmps47
    go_wp2
    go_loopw [10] (fun i wr => ∃ k : Nat, k ≤ L.length ∧ i = .int .i64 k ∧ w = wr ∧ ∀ j, j < k → (nthL L j).length ≤ 400) (fun i _ => L.length - (intOf i).toNat)
    case atStart => exact ⟨0, Nat.zero_le _, rfl, by trivial, fun j hj => absurd hj (Nat.not_lt_zero _)⟩
    case round =>
      obtain ⟨k, hk, rfl, rfl, he⟩ := hrel
      have he' := Lib.hid he
      clear he
      by_cases hlt : k < L.length
      · obtain ⟨b, o, rfl, hbw, s, hc, hs⟩ := hr'.out.at k hlt
        obtain ⟨sa, sc, rfl⟩ := hs.slice
        obtain ⟨M, hM⟩ : ∃ M, (nthL L k).length = M := ⟨_, rfl⟩
        have hM' := Lib.hid hM
        rw [hM] at hc
        clear hs hM
        by_cases h4 : M ≤ 400
        · have hh := Lib.hid (show ∀ j, j < k + 1 → (nthL L j).length ≤ 400 from fun j hj => by
            rcases Nat.lt_or_ge j k with h1 | h1
            · exact he'.out j h1
            · obtain rfl : j = k := by omega
              rw [hM'.out]; exact h4)
          go_wp2
          go_roundw
          case rel => exact ⟨k + 1, by omega, by go_num, by trivial, hh.out⟩
          case measure => simp [intOf]; omega
        · have hh := Lib.hid (hno.out (okS_no k (by rw [hM'.out]; omega)))
          go_wp2
          go_ret
          exact ⟨ret_bool hh.out.symm, rfl⟩
      · have hh := Lib.hid (hyes.out (okS_yes (fun i hi => he'.out i (by omega))))
        go_wp2
        go_ret
        exact ⟨ret_bool hh.out.symm, rfl⟩
end Go.Proofs.Ytegffpjhdodldaa

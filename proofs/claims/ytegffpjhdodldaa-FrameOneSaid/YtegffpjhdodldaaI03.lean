/- Contracts of the reference of layer 4: strings and lists that are written. -/
import Derived.Test.YtegffpjhdodldaaI02
namespace Go.Proofs.Ytegffpjhdodldaa
open Go.RowKit Go.Ytegffpjhdodldaa
set_option linter.unusedVariables false
theorem run_sliceAt_off {P : Program} {t n elem : Nat} (ht : P.underlying t = some (.array n elem)) (hs : (P.info? elem).map (·.size) = some 1) (b o : Nat) (w : World) :
    (Instr.sliceAt t (.pointer (some ⟨b, o, none⟩)) none none none).run P w = .ok (.slice (some ⟨b, o, none⟩) n n) w := by
  cases hq : P.info? elem with
  | none => simp [hq] at hs
  | some inf =>
    simp [Instr.sliceAt, run_underlying ht, Instr.sureAddr, Instr.sliceBounds, sizeOf, typeInfo, hq]
    unfold Addr.add
    simp
set_option maxRecDepth 100000 in
theorem rlist_any (F : List Int) (n : Nat) (v : Value) (w : World) (hr : RdI w v n F) (hn : n ≤ 60) :
    Calls Try.prog 43 #[v] w fun e w' => ∃ r, e = .returned r ∧ OwnB w.heap.size 5 w' r (numB n ++ F) ∧ Below w.heap.size w w' := by
  have hnum := Lib.hid (rnum_any n (by omega) w)
  have hlen := Lib.hid hr.len
  have hL9 := numL_le n (by omega)
  have hnl := Lib.hid (numB_length n)
  have hz := Lib.hid (show numB n ++ F.take (32 * 0) = numB n by simp)
  have hall := Lib.hid (show numB n ++ F.take (32 * n) = numB n ++ F by rw [List.take_of_length_le (by rw [hlen.out]; omega)])
  have hst := Lib.hid (fun k => (show (numB n ++ F.take (32 * k)) ++ idF F k = numB n ++ F.take (32 * (k + 1)) by rw [List.append_assoc, take_ids]))
  have hll := Lib.hid (fun k (hk : k ≤ n) => (show (numB n ++ F.take (32 * k)).length = numL n + 32 * k by rw [List.length_append, numB_length, List.length_take, hlen.out]; omega))
  obtain ⟨a, c, rfl⟩ := hr.slice
  have hr' := Lib.hid hr
  clear hr
  generalize hLL : (fun k => numB n ++ F.take (32 * k)) = LF
  have e : ∀ k, numB n ++ F.take (32 * k) = LF k := fun k => by rw [← hLL]
  simp only [e] at hz hall hst hll
  rw [← hz.out] at hnum hnl
  rw [← hall.out]
  clear e hLL hz hall
  generalize numL n = L at *
  go_enter Try.func43, Try.ntmps43
  go_wp2_with (go_at_call 44; (with_reducible refine (hnum.out).mono ?_); rintro e w1 ⟨r, rfl, ho, hb⟩; have ho' := Lib.hid ho; have hb' := Lib.hid hb; clear ho hb)
  clear hnum
  go_loopw [3, 4] (fun s i wr => ∃ k : Nat, k ≤ n ∧ i = .int .i64 k ∧ OwnB w.heap.size 5 wr s (LF k) ∧ Below w.heap.size w wr) (fun _ i _ => n - (intOf i).toNat)
  case atStart => exact ⟨0, Nat.zero_le _, rfl, ho'.out, hb'.out⟩
  case round =>
    obtain ⟨k, hk, rfl, ho, hb⟩ := hrel
    obtain ⟨sa, sc, rfl⟩ := own_slice ho _ (hll.out k hk)
    have hz := hb.size
    have ho2 := Lib.hid ho; have hb2 := Lib.hid hb
    clear ho hb ho' hb'
    by_cases hlt : k < n
    · obtain ⟨b, o, rfl, hbw, hnc, _, rd⟩ := rdI_at hr'.out hb2.out k hlt
      have rd' := Lib.hid rd
      have l1 := Lib.hid (idF_length F n k hlen.out hlt)
      have hst' := Lib.hid (hst.out k)
      have hl1 := Lib.hid (hll.out (k + 1) hlt)
      have hl0 := Lib.hid (hll.out k hk)
      clear rd
      generalize idF F k = A at *
      have hoff := fun wx => run_sliceAt_off (P := Try.prog) Try.underlying58 (by kernel_rfl) b (o + k * 32) wx
      go_wp2_with (refine appendB rfl _ _ 29 rfl w.heap.size 5 Try.underlying29 (by kernel_rfl) _ rfl (LF k) ho2.out _ rfl A rd'.out (by rw [hl0.out, l1.out]; omega) hz ?_)
      intro v' w' h1 h2
      have hB := Lib.hid (hb2.out.trans (ho2.out.below h2 hz))
      rw [hst'.out] at h1
      obtain ⟨va, vc, rfl⟩ := own_slice h1 _ hl1.out
      have h1' := Lib.hid h1
      clear h1 h2 ho2
      refine Stop.go ?_
      go_wp2
      go_roundw
      case rel => exact ⟨k + 1, by omega, by go_num, h1'.out, hB.out⟩
      case measure => simp [intOf]; omega
    · obtain rfl : k = n := by omega
      go_wp2
      go_ret
      exact ⟨_, rfl, ho2.out, hb2.out⟩
theorem rtext_any (sv : Value) (l : List Int) (w : World) (hr : RdB w sv l) (hl : l.length ≤ 10000) :
    Calls Try.prog 45 #[sv] w fun e w' => ∃ r, e = .returned r ∧ OwnB w.heap.size 5 w' r (textB l) ∧ Below w.heap.size w w' := by
  have hnum := Lib.hid (rnum_any l.length (by omega) w)
  have hL9 := numL_le l.length (by omega)
  have hnl := Lib.hid (numB_length l.length)
  have htb := Lib.hid (show numB l.length ++ l = textB l from rfl)
  have hrm := Lib.hid (fun wi (hw : Below w.heap.size w wi) => hr.mono hw)
  obtain ⟨n, hn⟩ : ∃ n, l.length = n := ⟨_, rfl⟩
  have hn' := Lib.hid hn
  obtain ⟨a, c, rfl⟩ := hr.slice
  rw [hn] at hnum hL9 hnl htb hl hrm ⊢
  clear hr hn
  generalize numB n = B at *
  generalize numL n = L at *
  go_enter Try.func45, Try.ntmps45
  go_wp2_with (first | (go_at_call 44; (with_reducible refine (hnum.out).mono ?_); rintro e w1 ⟨r, rfl, ho, hb⟩; have ho' := Lib.hid ho; have hb' := Lib.hid hb; have rd := Lib.hid (hrm.out _ hb); clear ho hb) | (refine appendB rfl _ _ 29 rfl w.heap.size 5 Try.underlying29 (by kernel_rfl) _ rfl B ho'.out _ rfl l rd.out (by rw [hnl.out, hn'.out]; omega) hb'.out.size ?_; intro v' w' h1 h2; have hB := Lib.hid (hb'.out.trans (ho'.out.below h2 hb'.out.size)); rw [htb.out] at h1; have h1' := Lib.hid h1; clear h1 h2; refine Stop.go ?_))
  go_ret
  exact ⟨_, rfl, h1'.out, hB.out⟩
end Go.Proofs.Ytegffpjhdodldaa

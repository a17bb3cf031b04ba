/- Contracts of package wire: lists of ids that are read. -/
import Derived.Test.YtegffpjhdodldaaI03
namespace Go
namespace Ytegffpjhdodldaa
open RowKit
theorem madeCells_ids (n : Nat) : madeCells (u8s (zerosB 32)) n = u8s (zerosB n) := by
  apply Array.ext
  · rw [size_madeCells, u8s_size, zerosB_length]
  · intro i h1 h2
    have hi : i < n := by rw [size_madeCells] at h1; exact h1
    have hz : ∀ m k, k < m → (u8s (zerosB m))[k]! = Value.int .u8 0 := by
      intro m k hk
      rw [getElem!_pos _ _ (by rw [u8s_size, zerosB_length]; exact hk)]
      simp [u8s, zerosB]
    have h3 : (u8s (zerosB 32)).size = 32 := by rw [u8s_size, zerosB_length]
    simp only [madeCells, Array.getElem_map, Array.getElem_range, h3]
    rw [hz 32 _ (Nat.mod_lt _ (by decide))]
    simp [u8s, zerosB]
section
variable {P : Program}
theorem run_makeI (w : World) (t e : TypeId) (ht : P.underlying t = some (.slice e)) (hinfo : (P.info? e).map (fun i => (i.zero, i.size, i.bytes)) = some (some (.agg (u8s (zerosB 32))), 32, 32))
    (n : Nat) (hn : n ≤ 1000000) :
    (Instr.makeSlice t (.int .i64 (n : Int)) (.int .i64 (n : Int))).run P w = .ok (.slice (some ⟨w.heap.size, 0, none⟩) n n) (w.alloc (.cells (u8s (zerosB (32 * n))) e)) := by
  obtain ⟨i, hi, hz, hs, hb⟩ := info_parts hinfo
  have h := run_make (P := P) w t e i (.agg (u8s (zerosB 32))) ht hi hz .i64 .i64 (n : Int) (n : Int) (by omega) (by omega) (by rw [hb]; omega) (by omega)
  rw [h, hs]
  simp only [Int.toNat_natCast, Value.cells]
  rw [madeCells_ids, Nat.mul_comm]
/-- Copying as many bytes as the place has, out of a slice that has more. -/
theorem copyB_part {ops : Array Oper} {rest : List Oper} {o : Oper} {a : Act} {w : World} {Q : Exit → Act → World → Prop} (hgd : o.guard = none) (d s : Operand) (dT sT : TypeId)
    (ho : o.op = .call { callee := .builtin .copy, args := #[d, s], argTypes := #[dT, sT] }) (elem : TypeId) (hu : P.underlying dT = some (.slice elem)) (hsz : (P.info? elem).map (·.size) = some 1)
    (g off dLen dCap : Nat) (hd : a.eval d = .slice (some ⟨g, off, none⟩) dLen dCap) (sv : Value) (hs : a.eval s = sv) (r : List Int) (hr : RdB w sv r) (h0 : 0 < dLen)
    (cs : List Int) (t : TypeId) (hg : w.heap[g]? = some (.cells (u8s cs) t (0, 0))) (hle : dLen ≤ r.length) (hfit : off + dLen ≤ cs.length)
    (h : ∀ w', Hid (w' = w.setRow g (u8s (overlay cs off (r.take dLen)))) → Stop (wpList P ops Q rest (a.put o.dst (goInt dLen)) w')) : wpList P ops Q (o :: rest) a w := by
  have h := (h _ (show _ = _ from rfl)).out
  rcases hr with ⟨sa, sc, rfl, _, rfl⟩ | ⟨b, o', c, rfl, h1, h2, h3, h4⟩
  · simp at hle; omega
  · have hl : (r.take dLen).length = dLen := by rw [List.length_take]; omega
    refine wpList_copy_own hgd d s dT sT ho elem hu hsz g off dLen dCap ⟨b, o', none⟩ r.length c hd hs (u8s cs) t hg (u8v (r.take dLen)) (by rw [u8v_length, hl]; exact (Nat.min_eq_right hle).symm)
      (RdB.src (fun i hi => by rw [hl] at hi; rw [ith_take _ _ _ hi]; exact h4 i (by omega))) (by rw [u8v_length, u8s_size, hl]; exact hfit) (u8v_one _) ?_
    rw [u8v_length, hl]
    have e : ((u8s cs).toList.take off ++ (u8v (r.take dLen) ++ (u8s cs).toList.drop (off + dLen))).toArray = u8s (overlay cs off (r.take dLen)) := by
      rw [overlay, hl]
      simp [u8s, u8v]
    rw [e]; exact h
end
end Ytegffpjhdodldaa
end Go
namespace Go.Proofs.Ytegffpjhdodldaa
open Go.RowKit Go.Ytegffpjhdodldaa
set_option linter.unusedVariables false
theorem rdI_row {w : World} {g : Nat} {F : List Int} {E : TypeId} (hg : w.heap[g]? = some (.cells (u8s F) E (0, 0))) (n : Nat) (hF : F.length = 32 * n) (hn : n ≤ 1000000) : RdI w (.slice (some ⟨g, 0, none⟩) n n) n F :=
  .inr ⟨g, 0, n, rfl, Nat.le_refl _, by unfold maxLen; omega, (Array.getElem?_eq_some_iff.1 hg).1, hF, fun i hi => by
    rw [Nat.zero_add, cell_of_row _ _ _ _ _ _ hg]; exact u8s_get _ _ hi⟩
/-- A row after k ids. -/
def idsP (F : List Int) (n k : Nat) : List Int := F.take (32 * k) ++ zerosB (32 * (n - k))
theorem idsP_length (F : List Int) (n k : Nat) (hF : F.length = 32 * n) (hk : k ≤ n) : (idsP F n k).length = 32 * n := by
  rw [idsP, List.length_append, List.length_take, zerosB_length]; omega
theorem idsP_step (F : List Int) (n k : Nat) (hF : F.length = 32 * n) (hk : k < n) : overlay (idsP F n k) (32 * k) (idF F k) = idsP F n (k + 1) := by
  have hl : (F.take (32 * k)).length = 32 * k := by rw [List.length_take]; omega
  have hid := idF_length F n k hF hk
  unfold overlay idsP
  rw [List.take_left' hl, hid, List.drop_append, List.drop_eq_nil_of_le (by rw [hl]; omega), List.nil_append, hl]
  have hz : (zerosB (32 * (n - k))).drop (32 * k + 32 - 32 * k) = zerosB (32 * (n - (k + 1))) := by
    unfold zerosB
    rw [List.drop_replicate]; congr 1; omega
  rw [hz, ← take_ids, List.append_assoc]
theorem idsP_all (F : List Int) (n : Nat) (hF : F.length = 32 * n) : idsP F n n = F := by
  unfold idsP
  rw [Nat.sub_self, Nat.mul_zero, List.take_of_length_le (by omega)]
  simp [zerosB]
theorem idsP_zero (F : List Int) (n : Nat) : idsP F n 0 = zerosB (32 * n) := by simp [idsP]
theorem readIDs_arg (bv : Value) (most : Int) (hm : most < 0) (w : World) :
    Calls Try.prog 49 #[bv, .int .i64 most] w fun e w' => e = .returned (.tuple #[.slice none 0 0, .int .i64 0, .int .i64 2]) ∧ w = w' := by
  have hc := Lib.hid (readCounted_arg bv most hm 32 w)
  go_enter Try.func49, Try.ntmps49
  go_wp2_with (go_at_call 57; (with_reducible refine (hc.out).mono ?_); rintro e w1 ⟨rfl, rfl⟩)
  go_ret3
  exact ⟨rfl, rfl⟩
theorem readIDs_no (l : List Int) (bv : Value) (most : Int) (h0 : 0 ≤ most) (hmx : most ≤ 9223372036854775807) (w : World) (hr : RdB w bv l) (hl : Bytes l) (hlm : l.length ≤ 1000000) (h : readC l most 32 = none) :
    Calls Try.prog 49 #[bv, .int .i64 most] w fun e w' => e = .returned (.tuple #[.slice none 0 0, .int .i64 0, .int .i64 12]) ∧ w = w' := by
  have hc0 := readCounted_no l bv most h0 hmx 32 (by omega) (by omega) w hr hl hlm h
  rw [show ((32 : Nat) : Int) = 32 from rfl] at hc0
  have hc := Lib.hid hc0
  clear hc0
  obtain ⟨a, c, rfl⟩ := hr.slice
  clear hr hl h
  go_enter Try.func49, Try.ntmps49
  go_wp2_with (go_at_call 57; (with_reducible refine (hc.out).mono ?_); rintro e w1 ⟨rfl, rfl⟩)
  go_ret3
  exact ⟨rfl, rfl⟩
/-- What is read: where it increases, and where it doesn't. -/
def readIDsPost (w : World) (F : List Int) (n used : Nat) (e : Ending) (w' : World) : Prop :=
  Below w.heap.size w w' ∧ if riseF F n = true then e = .returned (.tuple #[.slice (some ⟨w.heap.size, 0, none⟩) n n, .int .i64 (used : Nat), .int .i64 0]) ∧ w'.heap[w.heap.size]? = some (.cells (u8s F) 58 (0, 0)) else e = .returned (.tuple #[.slice none 0 0, .int .i64 0, .int .i64 12])
set_option maxRecDepth 100000 in
theorem readIDs_ok (l : List Int) (bv : Value) (most : Int) (h0 : 0 ≤ most) (hmx : most ≤ 9223372036854775807) (w : World) (hr : RdB w bv l) (hl : Bytes l) (hlm : l.length ≤ 1000000) (n u : Nat) (h : readC l most 32 = some (n, u)) :
    Calls Try.prog 49 #[bv, .int .i64 most] w (readIDsPost w ((l.drop u).take (n * 32)) n (u + n * 32)) := by
  have hc0 := readCounted_ok l bv most h0 hmx 32 (by omega) (by omega) w hr hl hlm n u h
  rw [show ((32 : Nat) : Int) = 32 from rfl] at hc0
  have hc := Lib.hid hc0
  obtain ⟨hre, g1, g2⟩ := readC_some h
  have hul := (readF_some hl hre).2.2.1
  have hn6 : n * 32 ≤ 1000000 := by omega
  have hlen := Lib.hid (show ((l.drop u).take (n * 32)).length = 32 * n by rw [List.length_take, List.length_drop]; omega)
  have hFb := Lib.hid (show Bytes ((l.drop u).take (n * 32)) from bytes_take _ _ (bytes_drop l u hl))
  obtain ⟨a, c, rfl⟩ := hr.slice
  clear hr hl h hre g1 g2 hul hc0
  generalize l.length = LL at *
  generalize (l.drop u).take (n * 32) = F at *
  have hps := Lib.hid (fun k (hk : k < n) => idsP_step F n k hlen.out hk)
  have hpl := Lib.hid (fun k (hk : k ≤ n) => idsP_length F n k hlen.out hk)
  have hpa := Lib.hid (idsP_all F n hlen.out)
  have hmk := fun (wx : World) => run_makeI (P := Try.prog) wx 23 58 Try.underlying23 (by kernel_rfl) n (by omega)
  have hrow := heap_alloc_new w (.cells (u8s (zerosB (32 * n))) 58)
  rw [← idsP_zero F n] at hrow
  have hrow' := Lib.hid hrow
  have hB0 := Lib.hid (below_a1 w (.cells (u8s (zerosB (32 * n))) 58))
  rw [idsP_zero F n] at hrow'
  obtain ⟨V, hV⟩ : ∃ V, n * 32 = V := ⟨_, rfl⟩
  rw [hV] at hc hn6 ⊢
  have hdiv : (V : Int) / 32 = (n : Int) := by omega
  have hVc := Lib.hid hV
  have hz0 := Lib.hid (idsP_zero F n)
  clear hV hrow
  go_enter Try.func49, Try.ntmps49
  go_wp2_with (go_at_call 57; (with_reducible refine (hc.out).mono ?_); rintro e w1 ⟨A, C, rfl, hrd, rfl⟩; have hrd' := Lib.hid hrd; clear hrd)
  generalize hW : w.alloc (.cells (u8s (zerosB (32 * n))) 58) = W at *
  have hW' := Lib.hid hW
  clear hW hc hmk
  go_loopw [28] (fun i wr => ∃ k : Nat, k ≤ n ∧ i = .int .i64 k ∧ Below w.heap.size w wr ∧ wr.heap[w.heap.size]? = some (.cells (u8s (idsP F n k)) 58 (0, 0))) (fun i _ => n - (intOf i).toNat)
  case atStart => exact ⟨0, Nat.zero_le _, rfl, hB0.out, by rw [hz0.out]; exact hrow'.out⟩
  case round =>
    obtain ⟨k, hk, rfl, hb, q1⟩ := hrel
    have hb' := Lib.hid hb; have q1' := Lib.hid q1
    clear hb q1 hB0 hrow'
    by_cases hlt : k < n
    · have hkV : k * 32 + 32 ≤ V := by have := hVc.out; omega
      have hVC : V ≤ C := rdB_cap hrd'.out
      obtain ⟨b, o, hA, hbw⟩ : ∃ b o, A = some ⟨b, o, none⟩ ∧ b < w.heap.size := by
        obtain ⟨b, o, h1, h2, _⟩ := rdB_at hrd'.out 0 (by rw [hlen.out]; omega)
        exact ⟨b, o, h1, h2⟩
      subst hA
      have rs := Lib.hid ((rdB_sub hrd'.out (k * 32) (V - k * 32) (C - k * 32) (by omega) (by omega) (by omega)).mono hb'.out)
      have rsl := Lib.hid (show ((F.drop (k * 32)).take (V - k * 32)).length = V - k * 32 by rw [List.length_take, List.length_drop, hlen.out]; have := hVc.out; omega)
      have rst := Lib.hid (show ((F.drop (k * 32)).take (V - k * 32)).take 32 = idF F k by rw [List.take_take, Nat.min_eq_left (by omega), idF, Nat.mul_comm])
      have hst := Lib.hid (hps.out k hlt)
      have hpk := Lib.hid (hpl.out k hk)
      generalize (F.drop (k * 32)).take (V - k * 32) = R at *
      generalize idsP F n k = PK at *
      have hoff := fun wx => run_sliceAt_off (P := Try.prog) Try.underlying58 (by kernel_rfl) w.heap.size (k * 32) wx
      have x1 : IntKind.i64.wrap ((k : Int) * 32) = (k : Int) * 32 := IntWalk.i64_in _ (by omega)
      have x2 : (0 : Int) ≤ (k : Int) * 32 := by omega
      have x3 : ((k : Int) * 32).toNat = k * 32 := by omega
      have x4 : (k : Int) * 32 ≤ (V : Int) := by omega
      have x5 : k * 32 ≤ V := by omega
      have x6 : ¬ C = k * 32 := by omega
      have x7 : k * 32 ≤ C := by omega
      have x8 : k ≤ 31250 := by omega
      go_wp2
      refine wp_region_headN (C := fun w' => ∃ n, w' = wr.drewN n) 8 [] (by kernel_rfl) (by kernel_rfl) ⟨1, rfl⟩ ?_
      simp only [List.take_succ_cons, List.take_zero, List.drop_succ_cons, List.drop_zero]
      repeat (refine head_walk (by rfl) (fun K hK => ?_); go_simp; refine hK _ ?_; clear hK K)
      refine head_nil ?_
      rintro w' ⟨nz, rfl⟩
      have rs2 := Lib.hid (draws_rdB ((Draws.refl wr).drewN nz) rs.out)
      have q2 := Lib.hid (show (wr.drewN nz).heap[w.heap.size]? = some (.cells (u8s PK) 58 (0, 0)) from q1'.out)
      have hb2 := Lib.hid (((Draws.refl wr).drewN nz).below hb'.out)
      clear x1 x2 x3 x4 x5 x6 x7 x8 hoff rs q1' hb'
      generalize wr.drewN nz = wz at *
      go_wp2_with (refine copyB_part rfl _ _ 29 29 rfl 5 Try.underlying29 (by kernel_rfl) w.heap.size (k * 32) 32 32 rfl _ rfl R rs2.out (by omega) PK 58 q2.out (by rw [rsl.out]; omega) (by rw [hpk.out]; omega) ?_)
      intro w5 hw5
      have q5 := Lib.hid (show w5.heap[w.heap.size]? = some (.cells (u8s (idsP F n (k + 1))) 58 (0, 0)) by rw [hw5.out, rst.out, Nat.mul_comm k 32, hst.out]; exact setRow_heap _ _ _ _ _ _ q2.out)
      have hb5 := Lib.hid (show Below w.heap.size w w5 by rw [hw5.out]; exact below_setRow' hb2.out (Nat.le_refl _) _)
      clear hw5
      refine Stop.go ?_
      go_wp2
      refine NoPanic.normal ?_
      go_wp2
      go_roundw
      case rel => exact ⟨k + 1, by omega, by go_num, hb5.out, q5.out⟩
      case measure => simp [intOf]; omega
    · obtain rfl : k = n := by omega
      rw [hpa.out] at q1'
      have hinc := Lib.hid (increase_any F k (.slice (some ⟨w.heap.size, 0, none⟩) k k) wr (rdI_row q1'.out k hlen.out (by omega)) hFb.out (by omega))
      cases hri : riseF F k
      · rw [hri] at hinc
        go_wp2_with (go_at_call 54; (with_reducible refine (hinc.out).mono ?_); rintro e w6 ⟨rfl, hb6⟩; have hb6' := Lib.hid hb6; clear hb6)
        go_ret3
        exact ⟨hb'.out.trans (hb6'.out.mono hb'.out.size), by rw [if_neg (by rw [hri]; decide)]; rfl⟩
      · rw [hri] at hinc
        go_wp2_with (go_at_call 54; (with_reducible refine (hinc.out).mono ?_); rintro e w6 ⟨rfl, hb6⟩; have hb6' := Lib.hid hb6; clear hb6)
        go_ret3
        refine ⟨hb'.out.trans (hb6'.out.mono hb'.out.size), ?_⟩
        rw [if_pos hri]
        exact ⟨rfl, (hb6'.out.block _ (Array.getElem?_eq_some_iff.1 q1'.out).1).trans q1'.out⟩
end Go.Proofs.Ytegffpjhdodldaa

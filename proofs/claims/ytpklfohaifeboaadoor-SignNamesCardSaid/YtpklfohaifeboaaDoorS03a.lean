/- Contracts of sign.numberOf and sign.tooLong. Contract of sign.hash. -/
import Derived.Test.YtpklfohaifeboaaDoorD01a
import Derived.Test.YtpklfohaifeboaaDoorLibB
import Derived.Test.YtpklfohaifeboaaDoorLibE
import Derived.Test.YtpklfohaifeboaaDoorD01l
import Derived.Test.YtpklfohaifeboaaDoorD01m
namespace Go.Proofs.YtpklfohaifeboaaDoor
open Go.RowKit Go.YtpklfohaifeboaaDoor
set_option linter.unusedVariables false
variable {Tg Tf : TypeId}
def numN (D : List Int) : Nat → Int
  | 0 => 0
  | k + 1 => numN D k * 256 + ith D k
theorem numN_in (D : List Int) (hD : Bytes D) (k : Nat) : 0 ≤ numN D k ∧ numN D k < 256 ^ k := by
  induction k with
  | zero => exact ⟨Int.le_refl _, by rw [Int.pow_zero]; exact Int.zero_lt_one⟩
  | succ k ih =>
    have h := hD k
    show 0 ≤ numN D k * 256 + ith D k ∧ numN D k * 256 + ith D k < 256 ^ (k + 1)
    rw [Int.pow_succ]; omega
theorem numN_7 (D : List Int) (hD : Bytes D) (k : Nat) (hk : k ≤ 7) : 0 ≤ numN D k ∧ numN D k < 72057594037927936 := by
  have h := numN_in D hD k
  refine ⟨h.1, Int.lt_of_lt_of_le h.2 ?_⟩
  have h2 : (256 : Nat) ^ k ≤ 72057594037927936 := (show (256 : Nat) ^ k ≤ 256 ^ 7 from Nat.pow_le_pow_right (by decide) hk)
  rw [show (256 : Int) ^ k = ((256 ^ k : Nat) : Int) by rw [Int.natCast_pow]; rfl]
  exact Int.ofNat_le.2 h2
set_option maxRecDepth 10000 in
theorem or_byte (x b : Int) (hx : 0 ≤ x ∧ x < 72057594037927936) (hb : 0 ≤ b ∧ b < 256) : bits BinOp.or IntKind.u64 (x * 256) b = x * 256 + b := by
  obtain ⟨n, rfl⟩ := Int.eq_ofNat_of_zero_le hx.1
  obtain ⟨m, rfl⟩ := Int.eq_ofNat_of_zero_le hb.1
  have h1 : (BitVec.ofInt 64 ((n : Int) * 256)).toNat = 2 ^ 8 * n := by
    rw [show (n : Int) * 256 = ((2 ^ 8 * n : Nat) : Int) by omega, BitVec.ofInt_natCast, BitVec.toNat_ofNat]; omega
  have h2 : (BitVec.ofInt 64 (m : Int)).toNat = m := by
    rw [BitVec.ofInt_natCast, BitVec.toNat_ofNat]; omega
  show IntKind.u64.wrap ((BitVec.ofInt 64 ((n : Int) * 256) ||| BitVec.ofInt 64 (m : Int)).toNat : Int) = _
  rw [BitVec.toNat_or, h1, h2, ← Nat.two_pow_add_eq_or_of_lt (by omega) n, IntKind.wrap_u64]
  omega
set_option maxRecDepth 100000 in
theorem numberOf_any (D : List Int) (w : World) (hl : D.length = 32) (hD : Bytes D) :
    Calls Tryd.prog 55 #[.agg (u8s D)] w fun e w' => e = .returned (.int .u64 (numN D 8)) ∧ Below w.heap.size w w' := by
  have hc := fun k (hk : k < 32) => (show (w.alloc (.cells (u8s D) 24)).cell? ⟨w.heap.size, k, none⟩ = some (.int .u8 (ith D k)) from by
    rw [cell_of_row _ _ _ _ _ _ (heap_alloc_new w _)]; exact u8s_get _ _ (by omega))
  have hc' := Lib.hid hc; have hl' := Lib.hid hl; have hD' := Lib.hid hD
  clear hc hl hD
  go_enter Tryd.func55, Tryd.ntmps55
  go_wp2
  go_loop [3, 8] (fun n i => ∃ k : Nat, k ≤ 8 ∧ i = .int .i64 k ∧ n = .int .u64 (numN D k)) (fun _ i => match i with | .int _ m => 8 - m.toNat | _ => 0)
  case atStart => exact ⟨0, by omega, rfl, rfl⟩
  case round =>
    obtain ⟨k, hk, rfl, rfl⟩ := hrel
    by_cases hlt : k < 8
    · have hck := hc'.out k (by omega)
      have hb := hD'.out k
      have hx := numN_7 D hD'.out k (by omega)
      have hor := Lib.hid (or_byte _ _ hx hb)
      have hnx : numN D (k + 1) = numN D k * 256 + ith D k := rfl
      generalize hY : numN D (k + 1) = y at hnx
      generalize hX : numN D k = x at *
      have hnx' := Lib.hid hnx; have hY' := Lib.hid hY
      clear hnx hX hY
      generalize ith D k = b at *
      go_wp2
      refine ⟨⟨k + 1, by omega, rfl, ?_⟩, ?_⟩
      · rw [hor.out, ← hnx'.out, hY'.out]
      · show 8 - ((k : Int) + 1).toNat < 8 - (k : Int).toNat
        omega
    · obtain rfl : k = 8 := by omega
      go_wp2
      go_ret
      exact ⟨rfl, (Below.refl _ _).alloc (Nat.le_refl _) _⟩
theorem tooLong_any (a : Option Addr) (n c : Nat) (w : World) : Calls Tryd.prog 43 #[.slice a n c] w fun e w' => e = .returned (.bool (decide (9991 < n))) ∧ w' = w := by
  go_enter Tryd.func43, Tryd.ntmps43
  go_wp2
  go_ret
  exact ⟨by congr 2; simp; omega, rfl⟩
theorem check_any (a : Nat) (w : World) : Calls Tryd.prog 29 #[.int .u32 (a : Int)] w fun e w' => e = .returned (.int .i64 (if 1 ≤ a ∧ a < 500000003 then 0 else 2)) ∧ w' = w := by
  by_cases h : 1 ≤ a ∧ a < 500000003
  · rw [if_pos h]
    obtain ⟨h1, h2⟩ := h
    go_enter Tryd.func29, Tryd.ntmps29
    go_wp2
    all_goals
      go_ret
      exact ⟨rfl, rfl⟩
  · rw [if_neg h]
    by_cases h1 : a = 0
    · subst h1
      go_enter Tryd.func29, Tryd.ntmps29
      go_wp2
      all_goals
        go_ret
        exact ⟨rfl, rfl⟩
    · have h2 : ¬ a < 500000003 := by omega
      have h3 : 1 ≤ a := by omega
      clear h h1
      go_enter Tryd.func29, Tryd.ntmps29
      go_wp2
      all_goals
        go_ret
        exact ⟨rfl, rfl⟩
end Go.Proofs.YtpklfohaifeboaaDoor
namespace Go.Proofs.YtpklfohaifeboaaDoor
open Go.RowKit Go.YtpklfohaifeboaaDoor
set_option linter.unusedVariables false
variable {Tg Tf : TypeId}
def headF (mark : Int) (nums : List Int) : Nat → List Int
  | 0 => [mark]
  | k + 1 => headF mark nums k ++ be4 (ith nums k)
theorem headF_length (mark : Int) (nums : List Int) (k : Nat) : (headF mark nums k).length = 4 * k + 1 := by
  induction k with
  | zero => rfl
  | succ k ih => simp [headF, ih, be4]; omega
theorem list_all32 (v : V8) (h : v.ok) : All32 v.list := by
  obtain ⟨h0, h1, h2, h3, h4, h5, h6, h7⟩ := h
  intro i
  match i with
  | 0 => exact h0
  | 1 => exact h1
  | 2 => exact h2
  | 3 => exact h3
  | 4 => exact h4
  | 5 => exact h5
  | 6 => exact h6
  | 7 => exact h7
  | i + 8 => rw [ith_over _ _ (by simp [V8.list])]; exact ⟨by omega, by omega⟩
theorem shaF_bytes (l : List Int) : Bytes (shaF l) := writtenN_bytes _ 8 (list_all32 _ (blocksF_ok _ _ (blocksF_ok _ _ firstW_ok)))
theorem headF_bytes (mark : Int) (nums : List Int) (hm : 0 ≤ mark ∧ mark < 256) (hn : All32 nums) (k : Nat) : Bytes (headF mark nums k) := by
  induction k with
  | zero => exact bytes_one _ hm
  | succ k ih => exact bytes_append _ _ ih (be4_bytes _ (hn k))
theorem rd_four (w : World) (a b c d : Int) : RdB (w.alloc (.cells #[.int .u8 a, .int .u8 b, .int .u8 c, .int .u8 d] 5)) (.slice (some ⟨w.heap.size, 0, none⟩) 4 4) [a, b, c, d] := .inr ⟨w.heap.size, 0, 4, rfl, Nat.le_refl _, by decide, by simp, fun i hi => by
  rw [Nat.zero_add, cell_of_row _ _ _ _ _ _ (heap_alloc_new w _)]
  match i, hi with
  | 0, _ => rfl
  | 1, _ => rfl
  | 2, _ => rfl
  | 3, _ => rfl⟩
theorem rd_two (w : World) (v1 v2 : Value) (a b : List Int) (h1 : RdB w v1 a) (h2 : RdB w v2 b) (la : a.length ≤ 10000) (lb : b.length ≤ 10000) (ba : Bytes a) (bb : Bytes b)
    (hg : w.heap[2]? = some (.cells (u32s constW) Tg (0, 0))) (hgf : w.heap[0]? = some (.cells firstW.cells Tf (0, 0))) :
    Calls Tryd.prog 11 #[.slice (some ⟨w.heap.size, 0, none⟩) 2 2] (w.alloc (.cells #[v1, v2] 26)) fun e w' => e = .returned (.tuple #[.agg (u8s (shaF (a ++ b))), .int .i64 0]) ∧ Below w.heap.size w w' := by
  have hB : Below w.heap.size w (w.alloc (.cells #[v1, v2] 26)) := (Below.refl _ _).alloc (Nat.le_refl _) _
  have h := pieces_any (Tg := Tg) (Tf := Tf) [a, b] (.slice (some ⟨w.heap.size, 0, none⟩) 2 2) w.heap.size 0 2 rfl (w.alloc (.cells #[v1, v2] 26)) (Nat.le_refl _) (by decide) (by simp) (fun i hi => by
    rw [Nat.zero_add]
    match i, hi with
    | 0, _ => exact ⟨_, cell_of_row _ _ _ _ _ _ (heap_alloc_new w _), h1.mono hB⟩
    | 1, _ => exact ⟨_, cell_of_row _ _ _ _ _ _ (heap_alloc_new w _), h2.mono hB⟩) (show 2 ≤ 20 by decide) (fun i => by
    match i with
    | 0 => exact la
    | 1 => exact lb
    | n + 2 => simp [nthL]) (fun i => by
    match i with
    | 0 => exact ba
    | 1 => exact bb
    | n + 2 => intro j; simp [nthL, ith]) ((hB.block _ (Array.getElem?_eq_some_iff.1 hg).1).trans hg) ((hB.block _ (Array.getElem?_eq_some_iff.1 hgf).1).trans hgf)
  rw [show ([a, b] : List (List Int)).flatten = a ++ b by simp] at h
  refine h.mono ?_
  rintro e w' ⟨rfl, hb⟩
  exact ⟨rfl, hB.trans (hb.mono (by simp))⟩
def hashF (mark : Int) (nums m : List Int) : Int := numN (shaF (headF mark nums nums.length ++ m)) 8
set_option maxRecDepth 100000 in
set_option maxHeartbeats 1000000 in
theorem hash_any (mark : Int) (nums m : List Int) (bn : Nat) (TU : TypeId) (mv : Value) (w : World) (hm : RdB w mv m) (hmb : Bytes m) (hml : m.length ≤ 9991) (hmk : 0 ≤ mark ∧ mark < 256) (hn2 : nums.length ≤ 2) (hn32 : All32 nums)
    (hn : w.heap[bn]? = some (.cells (u32s nums) TU (0, 0)))
    (hg : w.heap[2]? = some (.cells (u32s constW) Tg (0, 0))) (hgf : w.heap[0]? = some (.cells firstW.cells Tf (0, 0))) :
    Calls Tryd.prog 44 #[.int .u8 mark, mv, .slice (some ⟨bn, 0, none⟩) nums.length nums.length] w fun e w' => e = .returned (.int .u64 (hashF mark nums m)) ∧ Below w.heap.size w w' := by
  obtain ⟨ma, mc, rfl⟩ := hm.slice
  have hbn : bn < w.heap.size := (Array.getElem?_eq_some_iff.1 hn).1
  have e0 : OwnB w.heap.size 5 (w.alloc (.cells #[.int .u8 mark] 5)) (.slice (some ⟨w.heap.size, 0, none⟩) 1 1) (headF mark nums 0) :=
    ⟨rfl, .inr ⟨w.heap.size, 1, _, rfl, Nat.le_refl _, heap_alloc_new w _, Nat.le_refl _, by decide, rfl, rfl⟩⟩
  have e0' := Lib.hid e0; have hm' := Lib.hid hm; have hn' := Lib.hid hn; have hn32' := Lib.hid hn32; have hmb' := Lib.hid hmb; have hg' := Lib.hid hg; have hgf' := Lib.hid hgf
  clear e0 hm hn hn32 hmb hg hgf
  go_enter Tryd.func44, Tryd.ntmps44
  go_wp2
  go_loopw [7, 16] (fun h i wr => ∃ k : Nat, k ≤ nums.length ∧ i = .int .i64 k ∧ OwnB w.heap.size 5 wr h (headF mark nums k) ∧ Below w.heap.size w wr) (fun _ i _ => match i with | .int _ q => nums.length - q.toNat | _ => 0)
  case atStart => exact ⟨0, Nat.zero_le _, rfl, e0'.out, (Below.refl _ _).alloc (Nat.le_refl _) _⟩
  case round =>
    obtain ⟨k, hk, rfl, ho, hb⟩ := hrel
    obtain ⟨sa, sc, rfl⟩ := ho.rd.slice
    have hlen := headF_length mark nums k
    have hbd : (headF mark nums k).length + 4 ≤ 140737488355328 := by omega
    have hbd' := Lib.hid hbd
    generalize hHL : (headF mark nums k).length = hl at ho hlen ⊢
    have hHL' := Lib.hid hHL; have hlen' := Lib.hid hlen
    clear hHL hlen hbd
    by_cases hlt : k < nums.length
    · have hcell : wr.cell? ⟨bn, k, none⟩ = some (.int .u32 (ith nums k)) := by
        rw [cell_of_row _ _ _ _ _ _ ((hb.block _ hbn).trans hn'.out)]
        rw [u32s_eq]; simpa using u32v_get nums k hlt
      have hx := hn32'.out k
      generalize hX : ith nums k = x at hcell hx
      have hX' := Lib.hid hX; clear hX
      have ho' := Lib.hid ho; have hb' := Lib.hid hb; have hzw := hb.size
      clear ho hb
      obtain ⟨hx0, hx1⟩ := hx
      go_wp2_with (refine appendB rfl _ _ 26 rfl w.heap.size 5 Tryd.underlying26 (by kernel_rfl) _ rfl _ (ho'.out.kept ((Below.refl _ _).alloc (Nat.le_refl _) _)) _ rfl _ (rd_four _ _ _ _ _) (by exact hbd'.out) (by simp; omega) ?_)
      intro v' w' h1 h2
      have hb2 := (ho'.out.kept ((Below.refl _ _).alloc (Nat.le_refl _) _)).below h2 (by simp; omega)
      have h3 : OwnB w.heap.size 5 w' v' (headF mark nums (k + 1)) := by
        have e2 : headF mark nums (k + 1) = headF mark nums k ++ be4 x := by rw [← hX'.out]; rfl
        rw [e2]; exact h1
      have h3' := Lib.hid h3; have hB2 := Lib.hid (hb'.out.trans (((Below.refl _ _).alloc hzw _).trans hb2))
      obtain ⟨va, vc, rfl⟩ := h3.rd.slice
      clear h1 h2 hb2 h3 ho' hX' hHL' hlen' hbd' hcell
      refine Stop.go ?_
      go_wp2
      go_roundw
      case rel => exact ⟨k + 1, by omega, rfl, h3'.out, hB2.out⟩
      case measure => simp; omega
    · obtain rfl : k = nums.length := by omega
      have hg1 := Lib.hid ((hb.block _ (Array.getElem?_eq_some_iff.1 hg'.out).1).trans hg'.out)
      have hgf1 := Lib.hid ((hb.block _ (Array.getElem?_eq_some_iff.1 hgf'.out).1).trans hgf'.out)
      have hm1 := Lib.hid (hm'.out.mono hb)
      have ho1 := Lib.hid ho.rd
      have hB := Lib.hid hb
      have hzw := hb.size
      have hF := Lib.hid (show hashF mark nums m = numN (shaF (headF mark nums nums.length ++ m)) 8 from rfl)
      have hH := Lib.hid (headF_bytes mark nums hmk hn32'.out nums.length)
      have hHl : (headF mark nums nums.length).length ≤ 10000 := by rw [hHL'.out, hlen'.out]; omega
      have hHl' := Lib.hid hHl
      have hp := Lib.hid (rd_two wr (.slice sa hl sc) (.slice ma m.length mc) _ _ ho1.out hm1.out hHl'.out (by omega) hH.out hmb'.out hg1.out hgf1.out)
      have hDl := Lib.hid (shaF_length (headF mark nums nums.length ++ m))
      have hDb := Lib.hid (shaF_bytes (headF mark nums nums.length ++ m))
      clear ho hb ho1 hm1 hg1 hgf1 hH hHl hHl' hHL' hlen' hbd'
      generalize shaF (headF mark nums nums.length ++ m) = D at *
      have hi := Lib.hid (show (Tryd.prog.info? 24).map (·.size) = some (u8s D).size from by rw [u8s_size, hDl.out]; kernel_rfl)
      have hs2 := Lib.hid (show 32 = (u8s D).size by rw [u8s_size, hDl.out])
      go_wp2_with (first | (go_at_call 11; refine (hp.out).mono ?_; rintro e w1 ⟨rfl, hb1⟩; have hb1' := Lib.hid hb1; have hz1 := hb1.size; clear hb1) | (refine storeNew w1 rfl 24 _ _ rfl (u8s D) 24 rfl rfl hi.out (Eq.trans (by kernel_rfl) hs2.out) (u8s_one _) ?_; intro wx hr hb2; have hq := Lib.hid hr; have hb2' := Lib.hid hb2; clear hr hb2; refine Stop.go' _ ?_))
      refine Stop.go ?_
      have hB3 := Lib.hid (hB.out.trans ((hb1'.out.mono hzw).trans (hb2'.out.mono (Nat.le_trans hzw hz1))))
      have hzx := hB3.out.size
      clear hb1' hb2' hp hs2
      go_wp2_with (first | (refine wpList_load_row rfl 24 _ rfl w1.heap.size rfl 24 (u8s D) (0, 0) _ hq.out Tryd.underlying24 rfl hi.out ?_) | (go_at_call 55; refine (numberOf_any D _ hDl.out hDb.out).mono ?_; rintro e w2 ⟨rfl, hb3⟩; have hb3' := Lib.hid hb3; clear hb3))
      go_ret
      exact ⟨ret_int hF.out.symm, hB3.out.trans (hb3'.out.mono hzx)⟩
end Go.Proofs.YtpklfohaifeboaaDoor

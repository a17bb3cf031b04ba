/- Contracts of sign.numberOf and sign.tooLong. Contract of sign.hash. Contracts of sign.Public, Nonce, Challenge. Contracts of sign.Sign, right and Verify. Contracts of sign.right and Verify. -/
import Derived.Test.YtnknkiiikeefgaaGreatDoorD01a
import Derived.Test.YtnknkiiikeefgaaGreatDoorLibB
import Derived.Test.YtnknkiiikeefgaaGreatDoorD01h
import Derived.Test.YtnknkiiikeefgaaGreatDoorD01l
import Derived.Test.YtnknkiiikeefgaaGreatDoorG
namespace Go.Proofs.YtnknkiiikeefgaaGreatDoor
open Go.RowKit Go.YtnknkiiikeefgaaGreatDoor
set_option linter.unusedVariables false
variable {Tg Tf : TypeId}
def numN (D : List Int) : Nat → Int
  | 0 => 0
  | k + 1 => numN D k * 256 + ith D k
theorem numN_in (D : List Int) (hD : Bytes D) (k : Nat) : 0 ≤ numN D k ∧ numN D k < 256 ^ k := by
  induction k with
  | zero => exact ⟨Int.le_refl _, by rw [Int.pow_zero]; exact Int.zero_lt_one⟩
  | succ k ih =>
    have h := hD k
    show 0 ≤ numN D k * 256 + ith D k ∧ numN D k * 256 + ith D k < 256 ^ (k + 1)
    rw [Int.pow_succ]; omega
theorem numN_7 (D : List Int) (hD : Bytes D) (k : Nat) (hk : k ≤ 7) : 0 ≤ numN D k ∧ numN D k < 72057594037927936 := by
  have h := numN_in D hD k
  refine ⟨h.1, Int.lt_of_lt_of_le h.2 ?_⟩
  have h2 : (256 : Nat) ^ k ≤ 72057594037927936 := (show (256 : Nat) ^ k ≤ 256 ^ 7 from Nat.pow_le_pow_right (by decide) hk)
  rw [show (256 : Int) ^ k = ((256 ^ k : Nat) : Int) by rw [Int.natCast_pow]; rfl]
  exact Int.ofNat_le.2 h2
set_option maxRecDepth 10000 in
theorem or_byte (x b : Int) (hx : 0 ≤ x ∧ x < 72057594037927936) (hb : 0 ≤ b ∧ b < 256) : bits BinOp.or IntKind.u64 (x * 256) b = x * 256 + b := by
  obtain ⟨n, rfl⟩ := Int.eq_ofNat_of_zero_le hx.1
  obtain ⟨m, rfl⟩ := Int.eq_ofNat_of_zero_le hb.1
  have h1 : (BitVec.ofInt 64 ((n : Int) * 256)).toNat = 2 ^ 8 * n := by
    rw [show (n : Int) * 256 = ((2 ^ 8 * n : Nat) : Int) by omega, BitVec.ofInt_natCast, BitVec.toNat_ofNat]; omega
  have h2 : (BitVec.ofInt 64 (m : Int)).toNat = m := by
    rw [BitVec.ofInt_natCast, BitVec.toNat_ofNat]; omega
  show IntKind.u64.wrap ((BitVec.ofInt 64 ((n : Int) * 256) ||| BitVec.ofInt 64 (m : Int)).toNat : Int) = _
  rw [BitVec.toNat_or, h1, h2, ← Nat.two_pow_add_eq_or_of_lt (by omega) n, IntKind.wrap_u64]
  omega
set_option maxRecDepth 100000 in
theorem numberOf_any (D : List Int) (w : World) (hl : D.length = 32) (hD : Bytes D) :
    Calls Tryz.prog 191 #[.agg (u8s D)] w fun e w' => e = .returned (.int .u64 (numN D 8)) ∧ Below w.heap.size w w' := by
  have hc := fun k (hk : k < 32) => (show (w.alloc (.cells (u8s D) 24)).cell? ⟨w.heap.size, k, none⟩ = some (.int .u8 (ith D k)) from by
    rw [cell_of_row _ _ _ _ _ _ (heap_alloc_new w _)]; exact u8s_get _ _ (by omega))
  have hc' := Lib.hid hc; have hl' := Lib.hid hl; have hD' := Lib.hid hD
  clear hc hl hD
  go_enter Tryz.func191, Tryz.ntmps191
  go_wp2
  go_loop [3, 8] (fun n i => ∃ k : Nat, k ≤ 8 ∧ i = .int .i64 k ∧ n = .int .u64 (numN D k)) (fun _ i => match i with | .int _ m => 8 - m.toNat | _ => 0)
  case atStart => exact ⟨0, by omega, rfl, rfl⟩
  case round =>
    obtain ⟨k, hk, rfl, rfl⟩ := hrel
    by_cases hlt : k < 8
    · have hck := hc'.out k (by omega)
      have hb := hD'.out k
      have hx := numN_7 D hD'.out k (by omega)
      have hor := Lib.hid (or_byte _ _ hx hb)
      have hnx : numN D (k + 1) = numN D k * 256 + ith D k := rfl
      generalize hY : numN D (k + 1) = y at hnx
      generalize hX : numN D k = x at *
      have hnx' := Lib.hid hnx; have hY' := Lib.hid hY
      clear hnx hX hY
      generalize ith D k = b at *
      go_wp2
      refine ⟨⟨k + 1, by omega, rfl, ?_⟩, ?_⟩
      · rw [hor.out, ← hnx'.out, hY'.out]
      · show 8 - ((k : Int) + 1).toNat < 8 - (k : Int).toNat
        omega
    · obtain rfl : k = 8 := by omega
      go_wp2
      go_ret
      exact ⟨rfl, (Below.refl _ _).alloc (Nat.le_refl _) _⟩
theorem tooLong_any (a : Option Addr) (n c : Nat) (w : World) : Calls Tryz.prog 101 #[.slice a n c] w fun e w' => e = .returned (.bool (decide (9991 < n))) ∧ w' = w := by
  go_enter Tryz.func101, Tryz.ntmps101
  go_wp2
  go_ret
  exact ⟨by congr 2; simp; omega, rfl⟩
theorem check_any (a : Nat) (w : World) : Calls Tryz.prog 119 #[.int .u32 (a : Int)] w fun e w' => e = .returned (.int .i64 (if 1 ≤ a ∧ a < 500000003 then 0 else 2)) ∧ w' = w := by
  by_cases h : 1 ≤ a ∧ a < 500000003
  · rw [if_pos h]
    obtain ⟨h1, h2⟩ := h
    go_enter Tryz.func119, Tryz.ntmps119
    go_wp2
    all_goals
      go_ret
      exact ⟨rfl, rfl⟩
  · rw [if_neg h]
    by_cases h1 : a = 0
    · subst h1
      go_enter Tryz.func119, Tryz.ntmps119
      go_wp2
      all_goals
        go_ret
        exact ⟨rfl, rfl⟩
    · have h2 : ¬ a < 500000003 := by omega
      have h3 : 1 ≤ a := by omega
      clear h h1
      go_enter Tryz.func119, Tryz.ntmps119
      go_wp2
      all_goals
        go_ret
        exact ⟨rfl, rfl⟩
end Go.Proofs.YtnknkiiikeefgaaGreatDoor
namespace Go.Proofs.YtnknkiiikeefgaaGreatDoor
open Go.RowKit Go.YtnknkiiikeefgaaGreatDoor
set_option linter.unusedVariables false
variable {Tg Tf : TypeId}
def headF (mark : Int) (nums : List Int) : Nat → List Int
  | 0 => [mark]
  | k + 1 => headF mark nums k ++ be4 (ith nums k)
theorem headF_length (mark : Int) (nums : List Int) (k : Nat) : (headF mark nums k).length = 4 * k + 1 := by
  induction k with
  | zero => rfl
  | succ k ih => simp [headF, ih, be4]; omega
theorem list_all32 (v : V8) (h : v.ok) : All32 v.list := by
  obtain ⟨h0, h1, h2, h3, h4, h5, h6, h7⟩ := h
  intro i
  match i with
  | 0 => exact h0
  | 1 => exact h1
  | 2 => exact h2
  | 3 => exact h3
  | 4 => exact h4
  | 5 => exact h5
  | 6 => exact h6
  | 7 => exact h7
  | i + 8 => rw [ith_over _ _ (by simp [V8.list])]; exact ⟨by omega, by omega⟩
theorem shaF_bytes (l : List Int) : Bytes (shaF l) := writtenN_bytes _ 8 (list_all32 _ (blocksF_ok _ _ (blocksF_ok _ _ firstW_ok)))
theorem headF_bytes (mark : Int) (nums : List Int) (hm : 0 ≤ mark ∧ mark < 256) (hn : All32 nums) (k : Nat) : Bytes (headF mark nums k) := by
  induction k with
  | zero => exact bytes_one _ hm
  | succ k ih => exact bytes_append _ _ ih (be4_bytes _ (hn k))
theorem rd_four (w : World) (a b c d : Int) : RdB (w.alloc (.cells #[.int .u8 a, .int .u8 b, .int .u8 c, .int .u8 d] 5)) (.slice (some ⟨w.heap.size, 0, none⟩) 4 4) [a, b, c, d] := .inr ⟨w.heap.size, 0, 4, rfl, Nat.le_refl _, by decide, by simp, fun i hi => by
  rw [Nat.zero_add, cell_of_row _ _ _ _ _ _ (heap_alloc_new w _)]
  match i, hi with
  | 0, _ => rfl
  | 1, _ => rfl
  | 2, _ => rfl
  | 3, _ => rfl⟩
theorem rd_two (w : World) (v1 v2 : Value) (a b : List Int) (h1 : RdB w v1 a) (h2 : RdB w v2 b) (la : a.length ≤ 10000) (lb : b.length ≤ 10000) (ba : Bytes a) (bb : Bytes b)
    (hg : w.heap[2]? = some (.cells (u32s constW) Tg (0, 0))) (hgf : w.heap[0]? = some (.cells firstW.cells Tf (0, 0))) :
    Calls Tryz.prog 93 #[.slice (some ⟨w.heap.size, 0, none⟩) 2 2] (w.alloc (.cells #[v1, v2] 83)) fun e w' => e = .returned (.tuple #[.agg (u8s (shaF (a ++ b))), .int .i64 0]) ∧ Below w.heap.size w w' := by
  have hB : Below w.heap.size w (w.alloc (.cells #[v1, v2] 83)) := (Below.refl _ _).alloc (Nat.le_refl _) _
  have h := pieces_any (Tg := Tg) (Tf := Tf) [a, b] (.slice (some ⟨w.heap.size, 0, none⟩) 2 2) w.heap.size 0 2 rfl (w.alloc (.cells #[v1, v2] 83)) (Nat.le_refl _) (by decide) (by simp) (fun i hi => by
    rw [Nat.zero_add]
    match i, hi with
    | 0, _ => exact ⟨_, cell_of_row _ _ _ _ _ _ (heap_alloc_new w _), h1.mono hB⟩
    | 1, _ => exact ⟨_, cell_of_row _ _ _ _ _ _ (heap_alloc_new w _), h2.mono hB⟩) (show 2 ≤ 20 by decide) (fun i => by
    match i with
    | 0 => exact la
    | 1 => exact lb
    | n + 2 => simp [nthL]) (fun i => by
    match i with
    | 0 => exact ba
    | 1 => exact bb
    | n + 2 => intro j; simp [nthL, ith]) ((hB.block _ (Array.getElem?_eq_some_iff.1 hg).1).trans hg) ((hB.block _ (Array.getElem?_eq_some_iff.1 hgf).1).trans hgf)
  rw [show ([a, b] : List (List Int)).flatten = a ++ b by simp] at h
  refine h.mono ?_
  rintro e w' ⟨rfl, hb⟩
  exact ⟨rfl, hB.trans (hb.mono (by simp))⟩
def hashF (mark : Int) (nums m : List Int) : Int := numN (shaF (headF mark nums nums.length ++ m)) 8
set_option maxRecDepth 100000 in
set_option maxHeartbeats 1000000 in
theorem hash_any (mark : Int) (nums m : List Int) (bn : Nat) (TU : TypeId) (mv : Value) (w : World) (hm : RdB w mv m) (hmb : Bytes m) (hml : m.length ≤ 9991) (hmk : 0 ≤ mark ∧ mark < 256) (hn2 : nums.length ≤ 2) (hn32 : All32 nums)
    (hn : w.heap[bn]? = some (.cells (u32s nums) TU (0, 0)))
    (hg : w.heap[2]? = some (.cells (u32s constW) Tg (0, 0))) (hgf : w.heap[0]? = some (.cells firstW.cells Tf (0, 0))) :
    Calls Tryz.prog 160 #[.int .u8 mark, mv, .slice (some ⟨bn, 0, none⟩) nums.length nums.length] w fun e w' => e = .returned (.int .u64 (hashF mark nums m)) ∧ Below w.heap.size w w' := by
  obtain ⟨ma, mc, rfl⟩ := hm.slice
  have hbn : bn < w.heap.size := (Array.getElem?_eq_some_iff.1 hn).1
  have e0 : OwnB w.heap.size 5 (w.alloc (.cells #[.int .u8 mark] 5)) (.slice (some ⟨w.heap.size, 0, none⟩) 1 1) (headF mark nums 0) :=
    ⟨rfl, .inr ⟨w.heap.size, 1, _, rfl, Nat.le_refl _, heap_alloc_new w _, Nat.le_refl _, by decide, rfl, rfl⟩⟩
  have e0' := Lib.hid e0; have hm' := Lib.hid hm; have hn' := Lib.hid hn; have hn32' := Lib.hid hn32; have hmb' := Lib.hid hmb; have hg' := Lib.hid hg; have hgf' := Lib.hid hgf
  clear e0 hm hn hn32 hmb hg hgf
  go_enter Tryz.func160, Tryz.ntmps160
  go_wp2
  go_loopw [7, 16] (fun h i wr => ∃ k : Nat, k ≤ nums.length ∧ i = .int .i64 k ∧ OwnB w.heap.size 5 wr h (headF mark nums k) ∧ Below w.heap.size w wr) (fun _ i _ => match i with | .int _ q => nums.length - q.toNat | _ => 0)
  case atStart => exact ⟨0, Nat.zero_le _, rfl, e0'.out, (Below.refl _ _).alloc (Nat.le_refl _) _⟩
  case round =>
    obtain ⟨k, hk, rfl, ho, hb⟩ := hrel
    obtain ⟨sa, sc, rfl⟩ := ho.rd.slice
    have hlen := headF_length mark nums k
    have hbd : (headF mark nums k).length + 4 ≤ 140737488355328 := by omega
    have hbd' := Lib.hid hbd
    generalize hHL : (headF mark nums k).length = hl at ho hlen ⊢
    have hHL' := Lib.hid hHL; have hlen' := Lib.hid hlen
    clear hHL hlen hbd
    by_cases hlt : k < nums.length
    · have hcell : wr.cell? ⟨bn, k, none⟩ = some (.int .u32 (ith nums k)) := by
        rw [cell_of_row _ _ _ _ _ _ ((hb.block _ hbn).trans hn'.out)]
        rw [u32s_eq]; simpa using u32v_get nums k hlt
      have hx := hn32'.out k
      generalize hX : ith nums k = x at hcell hx
      have hX' := Lib.hid hX; clear hX
      have ho' := Lib.hid ho; have hb' := Lib.hid hb; have hzw := hb.size
      clear ho hb
      obtain ⟨hx0, hx1⟩ := hx
      go_wp2_with (refine appendB rfl _ _ 83 rfl w.heap.size 5 Tryz.underlying83 (by kernel_rfl) _ rfl _ (ho'.out.kept ((Below.refl _ _).alloc (Nat.le_refl _) _)) _ rfl _ (rd_four _ _ _ _ _) (by exact hbd'.out) (by simp; omega) ?_)
      intro v' w' h1 h2
      have hb2 := (ho'.out.kept ((Below.refl _ _).alloc (Nat.le_refl _) _)).below h2 (by simp; omega)
      have h3 : OwnB w.heap.size 5 w' v' (headF mark nums (k + 1)) := by
        have e2 : headF mark nums (k + 1) = headF mark nums k ++ be4 x := by rw [← hX'.out]; rfl
        rw [e2]; exact h1
      have h3' := Lib.hid h3; have hB2 := Lib.hid (hb'.out.trans (((Below.refl _ _).alloc hzw _).trans hb2))
      obtain ⟨va, vc, rfl⟩ := h3.rd.slice
      clear h1 h2 hb2 h3 ho' hX' hHL' hlen' hbd' hcell
      refine Stop.go ?_
      go_wp2
      go_roundw
      case rel => exact ⟨k + 1, by omega, rfl, h3'.out, hB2.out⟩
      case measure => simp; omega
    · obtain rfl : k = nums.length := by omega
      have hg1 := Lib.hid ((hb.block _ (Array.getElem?_eq_some_iff.1 hg'.out).1).trans hg'.out)
      have hgf1 := Lib.hid ((hb.block _ (Array.getElem?_eq_some_iff.1 hgf'.out).1).trans hgf'.out)
      have hm1 := Lib.hid (hm'.out.mono hb)
      have ho1 := Lib.hid ho.rd
      have hB := Lib.hid hb
      have hzw := hb.size
      have hF := Lib.hid (show hashF mark nums m = numN (shaF (headF mark nums nums.length ++ m)) 8 from rfl)
      have hH := Lib.hid (headF_bytes mark nums hmk hn32'.out nums.length)
      have hHl : (headF mark nums nums.length).length ≤ 10000 := by rw [hHL'.out, hlen'.out]; omega
      have hHl' := Lib.hid hHl
      have hp := Lib.hid (rd_two wr (.slice sa hl sc) (.slice ma m.length mc) _ _ ho1.out hm1.out hHl'.out (by omega) hH.out hmb'.out hg1.out hgf1.out)
      have hDl := Lib.hid (shaF_length (headF mark nums nums.length ++ m))
      have hDb := Lib.hid (shaF_bytes (headF mark nums nums.length ++ m))
      clear ho hb ho1 hm1 hg1 hgf1 hH hHl hHl' hHL' hlen' hbd'
      generalize shaF (headF mark nums nums.length ++ m) = D at *
      have hi := Lib.hid (show (Tryz.prog.info? 24).map (·.size) = some (u8s D).size from by rw [u8s_size, hDl.out]; kernel_rfl)
      have hs2 := Lib.hid (show 32 = (u8s D).size by rw [u8s_size, hDl.out])
      go_wp2_with (first | (go_at_call 93; refine (hp.out).mono ?_; rintro e w1 ⟨rfl, hb1⟩; have hb1' := Lib.hid hb1; have hz1 := hb1.size; clear hb1) | (refine storeNew w1 rfl 24 _ _ rfl (u8s D) 24 rfl rfl hi.out (Eq.trans (by kernel_rfl) hs2.out) (u8s_one _) ?_; intro wx hr hb2; have hq := Lib.hid hr; have hb2' := Lib.hid hb2; clear hr hb2; refine Stop.go' _ ?_))
      refine Stop.go ?_
      have hB3 := Lib.hid (hB.out.trans ((hb1'.out.mono hzw).trans (hb2'.out.mono (Nat.le_trans hzw hz1))))
      have hzx := hB3.out.size
      clear hb1' hb2' hp hs2
      go_wp2_with (first | (refine wpList_load_row rfl 24 _ rfl w1.heap.size rfl 24 (u8s D) (0, 0) _ hq.out Tryz.underlying24 rfl hi.out ?_) | (go_at_call 191; refine (numberOf_any D _ hDl.out hDb.out).mono ?_; rintro e w2 ⟨rfl, hb3⟩; have hb3' := Lib.hid hb3; clear hb3))
      go_ret
      exact ⟨ret_int hF.out.symm, hB3.out.trans (hb3'.out.mono hzx)⟩
end Go.Proofs.YtnknkiiikeefgaaGreatDoor
namespace Go.Proofs.YtnknkiiikeefgaaGreatDoor
open Go.RowKit Go.YtnknkiiikeefgaaGreatDoor
set_option linter.unusedVariables false
/-- The listed variables as they are laid. -/
def GlobW (w : World) : Prop := ∃ Tg Tf : TypeId, w.heap[2]? = some (.cells (u32s constW) Tg (0, 0)) ∧ w.heap[0]? = some (.cells firstW.cells Tf (0, 0))
theorem GlobW.mono {w w' : World} (h : GlobW w) (hb : Below w.heap.size w w') : GlobW w' := by
  obtain ⟨Tg, Tf, h1, h2⟩ := h
  exact ⟨Tg, Tf, (hb.block _ (Array.getElem?_eq_some_iff.1 h1).1).trans h1, (hb.block _ (Array.getElem?_eq_some_iff.1 h2).1).trans h2⟩
def hN (mark : Int) (nums m : List Int) : Nat := (hashF mark nums m).toNat
theorem hN_eq (mark : Int) (nums m : List Int) : hashF mark nums m = (hN mark nums m : Int) := by
  have h := numN_in (shaF (headF mark nums nums.length ++ m)) (shaF_bytes _) 8
  exact (Int.toNat_of_nonneg h.1).symm
def nonceN (a : Nat) (m : List Int) : Nat := hN 110 [(a : Int)] m % 500000002 + 1
def chalN (r y : Nat) (m : List Int) : Nat := hN 99 [(r : Int), (y : Int)] m % 500000003
theorem all32_1 (a : Nat) (ha : a < 4294967296) : All32 [(a : Int)] := all32_snoc [] _ (fun i => by simp [ith, In32]) ⟨by omega, by omega⟩
theorem all32_2 (a b : Nat) (ha : a < 4294967296) (hb : b < 4294967296) : All32 [(a : Int), (b : Int)] := all32_snoc [(a : Int)] _ (all32_1 a ha) ⟨by omega, by omega⟩
theorem hash1 (mark : Int) (hmk : 0 ≤ mark ∧ mark < 256) (a : Nat) (ha : a < 4294967296) (mv : Value) (m : List Int) (w : World) (hm : RdB w mv m) (hmb : Bytes m) (hml : m.length ≤ 9991) (hgl : GlobW w) :
    Calls Tryz.prog 160 #[.int .u8 mark, mv, .slice (some ⟨w.heap.size, 0, none⟩) 1 1] (w.alloc (.cells #[.int .u32 (a : Int)] 25)) fun e w' => e = .returned (.int .u64 (hN mark [(a : Int)] m : Int)) ∧ Below w.heap.size w w' := by
  have hB : Below w.heap.size w (w.alloc (.cells #[.int .u32 (a : Int)] 25)) := (Below.refl _ _).alloc (Nat.le_refl _) _
  obtain ⟨Tg, Tf, h1, h2⟩ := hgl.mono hB
  rw [← hN_eq]
  exact (hash_any (Tg := Tg) (Tf := Tf) mark [(a : Int)] m w.heap.size _ mv _ (hm.mono hB) hmb hml hmk (by simp) (all32_1 a ha) (heap_alloc_new w _) h1 h2).mono fun e w' ⟨he, hb⟩ => ⟨he, hB.trans (hb.mono (by simp))⟩
theorem hash2 (mark : Int) (hmk : 0 ≤ mark ∧ mark < 256) (a b : Nat) (ha : a < 4294967296) (hb : b < 4294967296) (mv : Value) (m : List Int) (w : World) (hm : RdB w mv m) (hmb : Bytes m) (hml : m.length ≤ 9991) (hgl : GlobW w) :
    Calls Tryz.prog 160 #[.int .u8 mark, mv, .slice (some ⟨w.heap.size, 0, none⟩) 2 2] (w.alloc (.cells #[.int .u32 (a : Int), .int .u32 (b : Int)] 25)) fun e w' => e = .returned (.int .u64 (hN mark [(a : Int), (b : Int)] m : Int)) ∧ Below w.heap.size w w' := by
  have hB : Below w.heap.size w (w.alloc (.cells #[.int .u32 (a : Int), .int .u32 (b : Int)] 25)) := (Below.refl _ _).alloc (Nat.le_refl _) _
  obtain ⟨Tg, Tf, h1, h2⟩ := hgl.mono hB
  rw [← hN_eq]
  exact (hash_any (Tg := Tg) (Tf := Tf) mark [(a : Int), (b : Int)] m w.heap.size _ mv _ (hm.mono hB) hmb hml hmk (by simp) (all32_2 a b ha hb) (heap_alloc_new w _) h1 h2).mono fun e w' ⟨he, hb⟩ => ⟨he, hB.trans (hb.mono (by simp))⟩
theorem ret_pair {a b c : Int} (h : a = b) : Ending.returned (.tuple #[.int .u32 a, .int .i64 c]) = .returned (.tuple #[.int .u32 b, .int .i64 c]) := by rw [h]
theorem check_ok (a : Nat) (h : 1 ≤ a ∧ a < 500000003) (w : World) : Calls Tryz.prog 119 #[.int .u32 (a : Int)] w fun e w' => e = .returned (.int .i64 0) ∧ w' = w := by
  have := check_any a w; rw [if_pos h] at this; exact this
theorem check_bad (a : Nat) (h : ¬ (1 ≤ a ∧ a < 500000003)) (w : World) : Calls Tryz.prog 119 #[.int .u32 (a : Int)] w fun e w' => e = .returned (.int .i64 2) ∧ w' = w := by
  have := check_any a w; rw [if_neg h] at this; exact this
theorem public_ok (a : Nat) (h : 1 ≤ a ∧ a < 500000003) (w : World) : Calls Tryz.prog 87 #[.int .u32 (a : Int)] w fun e w' => e = .returned (.tuple #[.int .u32 (grp.pw 4 a : Int), .int .i64 0]) ∧ Below w.heap.size w w' := by
  have hc := Lib.hid (check_ok a h); have hp := Lib.hid (grp.base_any a (by omega))
  have h0 : 1 ≤ a := h.1; have h1 : a < 4294967296 := by omega
  clear h
  go_enter Tryz.func87, Tryz.ntmps87
  go_wp2_with (first | (go_at_call 119; refine (hc.out _).mono ?_; rintro e w' ⟨rfl, rfl⟩) | (go_at_call 120; refine (hp.out _).mono ?_; rintro e w' ⟨rfl, g1⟩; have g1' := Lib.hid g1; clear g1))
  go_ret2
  exact ⟨rfl, g1'.out⟩
theorem public_bad (a : Nat) (h : ¬ (1 ≤ a ∧ a < 500000003)) (w : World) : Calls Tryz.prog 87 #[.int .u32 (a : Int)] w fun e w' => e = .returned (.tuple #[.int .u32 0, .int .i64 2]) ∧ w' = w := by
  have hc := Lib.hid (check_bad a h)
  clear h
  go_enter Tryz.func87, Tryz.ntmps87
  go_wp2_with (first | (go_at_call 119; refine (hc.out _).mono ?_; rintro e w' ⟨rfl, rfl⟩))
  go_ret2
  exact ⟨rfl, rfl⟩
theorem nonce_bad (a : Nat) (h : ¬ (1 ≤ a ∧ a < 500000003)) (mv : Value) (w : World) : Calls Tryz.prog 121 #[.int .u32 (a : Int), mv] w fun e w' => e = .returned (.tuple #[.int .u32 0, .int .i64 2]) ∧ w' = w := by
  have hc := Lib.hid (check_bad a h)
  clear h
  go_enter Tryz.func121, Tryz.ntmps121
  go_wp2_with (first | (go_at_call 119; refine (hc.out _).mono ?_; rintro e w' ⟨rfl, rfl⟩))
  go_ret2
  exact ⟨rfl, rfl⟩
theorem nonce_long (a : Nat) (h : 1 ≤ a ∧ a < 500000003) (ma : Option Addr) (n c : Nat) (hn : 9991 < n) (w : World) : Calls Tryz.prog 121 #[.int .u32 (a : Int), .slice ma n c] w fun e w' => e = .returned (.tuple #[.int .u32 0, .int .i64 4]) ∧ w' = w := by
  have hc := Lib.hid (check_ok a h)
  have hl0 := tooLong_any ma n c
  rw [decide_eq_true hn] at hl0
  have hl := Lib.hid hl0
  clear h hl0 hn
  go_enter Tryz.func121, Tryz.ntmps121
  go_wp2_with (first | (go_at_call 119; refine (hc.out _).mono ?_; rintro e w' ⟨rfl, rfl⟩) | (go_at_call 101; refine (hl.out _).mono ?_; rintro e w' ⟨rfl, rfl⟩))
  go_ret2
  exact ⟨rfl, rfl⟩
theorem nonce_ok (a : Nat) (h : 1 ≤ a ∧ a < 500000003) (mv : Value) (m : List Int) (w : World) (hm : RdB w mv m) (hmb : Bytes m) (hml : m.length ≤ 9991) (hgl : GlobW w) :
    Calls Tryz.prog 121 #[.int .u32 (a : Int), mv] w fun e w' => e = .returned (.tuple #[.int .u32 (nonceN a m : Int), .int .i64 0]) ∧ Below w.heap.size w w' := by
  obtain ⟨ma, mc, rfl⟩ := hm.slice
  have hc := Lib.hid (check_ok a h)
  have hl0 := tooLong_any ma m.length mc
  rw [decide_eq_false (by omega)] at hl0
  have hl := Lib.hid hl0
  have hh := Lib.hid (hash1 110 (by decide) a (by omega) _ m w hm hmb hml hgl)
  unfold nonceN
  clear h hl0 hm hmb hml hgl
  generalize hN 110 [(a : Int)] m = H at *
  generalize m.length = n at *
  go_enter Tryz.func121, Tryz.ntmps121
  go_wp2_with (first | (go_at_call 119; refine (hc.out _).mono ?_; rintro e w' ⟨rfl, rfl⟩) | (go_at_call 101; refine (hl.out _).mono ?_; rintro e w' ⟨rfl, rfl⟩) | (go_at_call 160; refine (hh.out).mono ?_; rintro e w' ⟨rfl, g1⟩; have g1' := Lib.hid g1; clear g1))
  go_ret2
  exact ⟨ret_pair (by omega), g1'.out⟩
theorem chal_long (r y : Int) (ma : Option Addr) (n c : Nat) (hn : 9991 < n) (w : World) : Calls Tryz.prog 122 #[.int .u32 r, .int .u32 y, .slice ma n c] w fun e w' => e = .returned (.tuple #[.int .u32 0, .int .i64 4]) ∧ w' = w := by
  have hl0 := tooLong_any ma n c
  rw [decide_eq_true hn] at hl0
  have hl := Lib.hid hl0
  clear hl0 hn
  go_enter Tryz.func122, Tryz.ntmps122
  go_wp2_with (first | (go_at_call 101; refine (hl.out _).mono ?_; rintro e w' ⟨rfl, rfl⟩))
  go_ret2
  exact ⟨rfl, rfl⟩
theorem chal_ok (r y : Nat) (hr : r < 4294967296) (hy : y < 4294967296) (mv : Value) (m : List Int) (w : World) (hm : RdB w mv m) (hmb : Bytes m) (hml : m.length ≤ 9991) (hgl : GlobW w) :
    Calls Tryz.prog 122 #[.int .u32 (r : Int), .int .u32 (y : Int), mv] w fun e w' => e = .returned (.tuple #[.int .u32 (chalN r y m : Int), .int .i64 0]) ∧ Below w.heap.size w w' := by
  obtain ⟨ma, mc, rfl⟩ := hm.slice
  have hl0 := tooLong_any ma m.length mc
  rw [decide_eq_false (by omega)] at hl0
  have hl := Lib.hid hl0
  have hh := Lib.hid (hash2 99 (by decide) r y hr hy _ m w hm hmb hml hgl)
  unfold chalN
  clear hr hy hl0 hm hmb hml hgl
  generalize hN 99 [(r : Int), (y : Int)] m = H at *
  generalize m.length = n at *
  go_enter Tryz.func122, Tryz.ntmps122
  go_wp2_with (first | (go_at_call 101; refine (hl.out _).mono ?_; rintro e w' ⟨rfl, rfl⟩) | (go_at_call 160; refine (hh.out).mono ?_; rintro e w' ⟨rfl, g1⟩; have g1' := Lib.hid g1; clear g1))
  go_ret2
  exact ⟨ret_pair (by omega), g1'.out⟩
end Go.Proofs.YtnknkiiikeefgaaGreatDoor
namespace Go.Proofs.YtnknkiiikeefgaaGreatDoor
open Go.RowKit Go.YtnknkiiikeefgaaGreatDoor
set_option linter.unusedVariables false
/-- The world 'wi' has what 'w' had, and a row of its own. -/
def Row1 (w wi : World) (cs : Array Value) (T : TypeId) : Prop := Below w.heap.size w wi ∧ wi.heap[w.heap.size]? = some (.cells cs T (0, 0))
theorem Row1.start (w : World) (cs : Array Value) (T : TypeId) : Row1 w (w.alloc (.cells cs T)) cs T := ⟨(Below.refl _ _).alloc (Nat.le_refl _) _, heap_alloc_new w _⟩
theorem Row1.step {w wi wj : World} {cs : Array Value} {T : TypeId} (h : Row1 w wi cs T) (hb : Below wi.heap.size wi wj) : Row1 w wj cs T :=
  ⟨h.1.trans (hb.mono h.1.size), (hb.block _ (Array.getElem?_eq_some_iff.1 h.2).1).trans h.2⟩
theorem Row1.set {w wi : World} {cs : Array Value} {T : TypeId} (h : Row1 w wi cs T) (ds : Array Value) : Row1 w (wi.setRow w.heap.size ds) ds T :=
  ⟨below_setRow' (g := w.heap.size) h.1 (Nat.le_refl _) _, setRow_heap _ _ _ _ _ _ h.2⟩
def eN (a : Nat) (m : List Int) : Nat := chalN (grp.pw 4 (nonceN a m)) (grp.pw 4 a) m
def sN (a : Nat) (m : List Int) : Nat := (nonceN a m + eN a m * a % 500000003) % 500000003
theorem nonceN_lt (a : Nat) (m : List Int) : 1 ≤ nonceN a m ∧ nonceN a m < 500000003 := by unfold nonceN; omega
theorem chalN_lt (r y : Nat) (m : List Int) : chalN r y m < 500000003 := Nat.mod_lt _ (by decide)
theorem pw_u32 (a n : Nat) : grp.pw a n < 4294967296 := grp.GP_u32 (grp.pw_lt a n)
theorem two_one (a b : Int) : (#[Value.int .u32 a, Value.int .u32 b] : Array Value).all (·.oneCell') = true := u32s_one [a, b]
theorem sig_info : (Tryz.prog.info? 33).map (·.size) = some 2 := by kernel_rfl
set_option maxHeartbeats 1000000 in
theorem sign_ok (a : Nat) (h : 1 ≤ a ∧ a < 500000003) (mv : Value) (m : List Int) (w : World) (hm : RdB w mv m) (hmb : Bytes m) (hml : m.length ≤ 9991) (hgl : GlobW w) :
    Calls Tryz.prog 88 #[.int .u32 (a : Int), mv] w fun e w' => e = .returned (.tuple #[.agg #[.int .u32 (eN a m : Int), .int .u32 (sN a m : Int)], .int .i64 0]) ∧ Below w.heap.size w w' := by
  obtain ⟨ma, mc, rfl⟩ := hm.slice
  unfold sN
  have hk := nonceN_lt a m
  have hN := Lib.hid (fun wi (o : Row1 w wi #[.int .u32 0, .int .u32 0] 33) => nonce_ok a h _ m wi (hm.mono o.1) hmb hml (hgl.mono o.1))
  have hC := Lib.hid (fun wi (o : Row1 w wi #[.int .u32 0, .int .u32 0] 33) => chal_ok (grp.pw 4 (nonceN a m)) (grp.pw 4 a) (pw_u32 _ _) (pw_u32 _ _) _ m wi (hm.mono o.1) hmb hml (hgl.mono o.1))
  have hE : chalN (grp.pw 4 (nonceN a m)) (grp.pw 4 a) m = eN a m := rfl
  rw [hE] at hC
  have he := chalN_lt (grp.pw 4 (nonceN a m)) (grp.pw 4 a) m
  rw [hE] at he
  clear hE
  generalize eN a m = E at *
  generalize nonceN a m = K at *
  have hK := Lib.hid (grp.base_any K (by omega)); have hA := Lib.hid (grp.base_any a (by omega))
  generalize grp.pw 4 K = R at *
  generalize grp.pw 4 a = Y at *
  have hT := Lib.hid (grp.times_ok E a he h.2)
  have hP := Lib.hid (grp.plus_ok K (E * a % 500000003) hk.2 (Nat.mod_lt _ (by decide)))
  generalize E * a % 500000003 = P at *
  generalize (K + P) % 500000003 = S at *
  have hR := Lib.hid (Row1.start w #[.int .u32 0, .int .u32 0] 33)
  generalize m.length = n at *
  have ha := h.1; have hk1 := hk.1; have hk2 := hk.2
  have ha2 := h.2
  clear hm hmb hgl h hk
  go_enter Tryz.func88, Tryz.ntmps88
  go_wp2_with (first | (go_at_call 121; refine (hN.out _ hR.out).mono ?_; rintro e w' ⟨rfl, g⟩; have hR := Lib.hid (hR.out.step g); clear g) | (go_at_call 120; (first | (with_reducible refine (hK.out _).mono ?_) | (with_reducible refine (hA.out _).mono ?_)); rintro e w' ⟨rfl, g⟩; have hR := Lib.hid (hR.out.step g); clear g) | (go_at_call 122; refine (hC.out _ hR.out).mono ?_; rintro e w' ⟨rfl, g⟩; have hR := Lib.hid (hR.out.step g); clear g) | (go_at_call 123; refine (hT.out _).mono ?_; rintro e w' ⟨rfl, g⟩; have hR := Lib.hid (hR.out.step g); clear g) | (go_at_call 124; refine (hP.out _).mono ?_; rintro e w' ⟨rfl, g⟩; have hR := Lib.hid (hR.out.step g); clear g) | (refine wpList_store_row rfl 33 _ _ rfl w.heap.size #[.int .u32 (E : Int), .int .u32 (S : Int)] rfl rfl 33 _ hR.out.2 sig_info rfl (two_one _ _) ?_; have hR := Lib.hid (hR.out.set #[.int .u32 (E : Int), .int .u32 (S : Int)])))
  try simp only [Exit.inBlock, Exit.then]
  exact bodyPost_ret (results_row_tmp rfl _ _ w.heap.size 33 _ _ _ rfl hR.out.2 Tryz.underlying33 rfl sig_info) rfl ⟨rfl, hR.out.1⟩
theorem sign_bad (a : Nat) (h : ¬ (1 ≤ a ∧ a < 500000003)) (ma : Option Addr) (n c : Nat) (w : World) :
    Calls Tryz.prog 88 #[.int .u32 (a : Int), .slice ma n c] w fun e w' => e = .returned (.tuple #[.agg #[.int .u32 0, .int .u32 0], .int .i64 2]) ∧ Below w.heap.size w w' := by
  have hN := Lib.hid (fun wi => nonce_bad a h (.slice ma n c) wi)
  have hR := Lib.hid (Row1.start w #[.int .u32 0, .int .u32 0] 33)
  clear h
  go_enter Tryz.func88, Tryz.ntmps88
  go_wp2_with (first | (go_at_call 121; refine (hN.out _).mono ?_; rintro e w' ⟨rfl, rfl⟩) | (refine wpList_store_row rfl 33 _ _ rfl w.heap.size #[.int .u32 0, .int .u32 0] rfl rfl 33 _ hR.out.2 sig_info rfl (two_one _ _) ?_; have hR := Lib.hid (hR.out.set #[.int .u32 0, .int .u32 0])))
  try simp only [Exit.inBlock, Exit.then]
  exact bodyPost_ret (results_row_tmp rfl _ _ w.heap.size 33 _ _ _ rfl hR.out.2 Tryz.underlying33 rfl sig_info) rfl ⟨rfl, hR.out.1⟩
theorem sign_long (a : Nat) (h : 1 ≤ a ∧ a < 500000003) (ma : Option Addr) (n c : Nat) (hn : 9991 < n) (w : World) :
    Calls Tryz.prog 88 #[.int .u32 (a : Int), .slice ma n c] w fun e w' => e = .returned (.tuple #[.agg #[.int .u32 0, .int .u32 0], .int .i64 4]) ∧ Below w.heap.size w w' := by
  have hN := Lib.hid (fun wi => nonce_long a h ma n c hn wi)
  have hR := Lib.hid (Row1.start w #[.int .u32 0, .int .u32 0] 33)
  clear h hn
  go_enter Tryz.func88, Tryz.ntmps88
  go_wp2_with (first | (go_at_call 121; refine (hN.out _).mono ?_; rintro e w' ⟨rfl, rfl⟩) | (refine wpList_store_row rfl 33 _ _ rfl w.heap.size #[.int .u32 0, .int .u32 0] rfl rfl 33 _ hR.out.2 sig_info rfl (two_one _ _) ?_; have hR := Lib.hid (hR.out.set #[.int .u32 0, .int .u32 0])))
  try simp only [Exit.inBlock, Exit.then]
  exact bodyPost_ret (results_row_tmp rfl _ _ w.heap.size 33 _ _ _ rfl hR.out.2 Tryz.underlying33 rfl sig_info) rfl ⟨rfl, hR.out.1⟩
end Go.Proofs.YtnknkiiikeefgaaGreatDoor
namespace Go.Proofs.YtnknkiiikeefgaaGreatDoor
open Go.RowKit Go.YtnknkiiikeefgaaGreatDoor
set_option linter.unusedVariables false
/-- The number that S and E give for a public key. -/
def rN (y S E : Nat) : Nat := grp.pw 4 S * grp.pw (grp.pw y E) 500000002 % grp.GP
def rightB (y : Nat) (m : List Int) (S E : Nat) : Bool := decide (E < 500000003) && (decide (S < 500000003) && decide (chalN (rN y S E) y m = E))
theorem dec_eq (a b : Nat) : ((a : Int) == (b : Int)) = decide (a = b) := by
  rw [Bool.eq_iff_iff, beq_iff_eq, decide_eq_true_iff]; omega
theorem dec_eq' (a b : Nat) : decide ((a : Int) = (b : Int)) = decide (a = b) := decide_eq_decide.2 (by omega)
theorem sig_load (w : World) (E S : Int) (T : TypeId) : (w.alloc (.cells #[.int .u32 E, .int .u32 S] T)).heap[w.heap.size]? = some (.cells #[.int .u32 E, .int .u32 S] T (0, 0)) := heap_alloc_new w _
set_option maxHeartbeats 1000000 in
theorem right_any (y : Nat) (hy : grp.inG y = true) (S E : Nat) (hS : S < 4294967296) (hE : E < 4294967296) (mv : Value) (m : List Int) (w : World) (hm : RdB w mv m) (hmb : Bytes m) (hml : m.length ≤ 9991) (hgl : GlobW w) :
    Calls Tryz.prog 102 #[.int .u32 (y : Int), mv, .agg #[.int .u32 (E : Int), .int .u32 (S : Int)]] w fun e w' => e = .returned (.bool (rightB y m S E)) ∧ Below w.heap.size w w' := by
  by_cases h1 : E < 500000003
  · by_cases h2 : S < 500000003
    · have hr : rightB y m S E = decide (chalN (rN y S E) y m = E) := by simp [rightB, h1, h2]
      rw [hr]
      obtain ⟨ma, mc, rfl⟩ := hm.slice
      have hPo := Lib.hid (grp.pow_ok y E hy (by omega))
      have gP := grp.inG_pw y E hy
      have hC := Lib.hid (fun wi (o : Row1 w wi #[.int .u32 (E : Int), .int .u32 (S : Int)] 33) => chal_ok (rN y S E) y (grp.GP_u32 (Nat.mod_lt _ grp.GP_pos)) (grp.inG_u32 hy) _ m wi (hm.mono o.1) hmb hml (hgl.mono o.1))
      unfold rN at hC ⊢
      generalize grp.pw y E = P at *
      have hIn := Lib.hid (grp.inv_ok P gP)
      have gI := grp.inG_pw P 500000002 gP
      generalize grp.pw P 500000002 = I at *
      have hBa := Lib.hid (grp.base_any S (by omega))
      have gB := grp.inG_pw 4 S grp.in4
      generalize grp.pw 4 S = B at *
      have hMu := Lib.hid (grp.mul_ok B I gB gI)
      generalize B * I % grp.GP = R at *
      generalize chalN R y m = C at *
      have hR := Lib.hid (Row1.start w #[.int .u32 (E : Int), .int .u32 (S : Int)] 33)
      have hc0 : ∀ wi, Row1 w wi #[.int .u32 (E : Int), .int .u32 (S : Int)] 33 → wi.cell? ⟨w.heap.size, 0, none⟩ = some (.int .u32 (E : Int)) ∧ wi.cell? ⟨w.heap.size, 1, none⟩ = some (.int .u32 (S : Int)) := fun wi o => ⟨cell_of_row _ _ _ _ _ _ o.2, cell_of_row _ _ _ _ _ _ o.2⟩
      have hc := Lib.hid hc0
      have d1 : ¬ (500000003 : Int) ≤ (E : Int) := by omega
      have d2 : ¬ (500000003 : Int) ≤ (S : Int) := by omega
      generalize m.length = n at *
      clear hm hmb hgl hy gP gI gB hr hc0
      go_enter Tryz.func102, Tryz.ntmps102
      generalize hq : (500000003 : Int) = q at d1 d2 ⊢
      clear hq
      go_wp2_with (first | (go_at_call 136; refine (hPo.out _).mono ?_; rintro e w' ⟨rfl, g⟩; have hR := Lib.hid (hR.out.step g); clear g; obtain ⟨k0, k1⟩ := hc.out _ hR.out) | (go_at_call 137; refine (hIn.out _).mono ?_; rintro e w' ⟨rfl, g⟩; have hR := Lib.hid (hR.out.step g); clear g; obtain ⟨k0, k1⟩ := hc.out _ hR.out) | (go_at_call 120; refine (hBa.out _).mono ?_; rintro e w' ⟨rfl, g⟩; have hR := Lib.hid (hR.out.step g); clear g; obtain ⟨k0, k1⟩ := hc.out _ hR.out) | (go_at_call 138; refine (hMu.out _).mono ?_; rintro e w' ⟨rfl, g⟩; have hR := Lib.hid (hR.out.step g); clear g; obtain ⟨k0, k1⟩ := hc.out _ hR.out) | (go_at_call 122; refine (hC.out _ hR.out).mono ?_; rintro e w' ⟨rfl, g⟩; have hR := Lib.hid (hR.out.step g); clear g; obtain ⟨k0, k1⟩ := hc.out _ hR.out))
      go_ret
      first | exact ⟨ret_bool (dec_eq C E), hR.out.1⟩ | exact ⟨ret_bool (dec_eq' C E), hR.out.1⟩
    · have hr : rightB y m S E = false := by simp [rightB, h2]
      rw [hr]
      obtain ⟨ma, mc, rfl⟩ := hm.slice
      have hR := Lib.hid (Row1.start w #[.int .u32 (E : Int), .int .u32 (S : Int)] 33)
      have d1 : ¬ (500000003 : Int) ≤ (E : Int) := by omega
      have d2 : (500000003 : Int) ≤ (S : Int) := by omega
      clear hm hmb hgl hy hr
      go_enter Tryz.func102, Tryz.ntmps102
      generalize hq : (500000003 : Int) = q at d1 d2 ⊢
      clear hq
      go_wp2
      go_ret
      exact ⟨rfl, hR.out.1⟩
  · have hr : rightB y m S E = false := by simp [rightB, h1]
    rw [hr]
    obtain ⟨ma, mc, rfl⟩ := hm.slice
    have hR := Lib.hid (Row1.start w #[.int .u32 (E : Int), .int .u32 (S : Int)] 33)
    have d1 : (500000003 : Int) ≤ (E : Int) := by omega
    clear hm hmb hgl hy hr
    go_enter Tryz.func102, Tryz.ntmps102
    generalize hq : (500000003 : Int) = q at d1 ⊢
    clear hq
    go_wp2
    go_ret
    exact ⟨rfl, hR.out.1⟩
theorem verify_arg (y : Nat) (hyu : y < 4294967296) (hy : grp.inG y = false) (ma : Option Addr) (n c : Nat) (E S : Int) (w : World) :
    Calls Tryz.prog 74 #[.int .u32 (y : Int), .slice ma n c, .agg #[.int .u32 E, .int .u32 S]] w fun e w' => e = .returned (.int .i64 2) ∧ Below w.heap.size w w' := by
  have hI0 := grp.is_any y hyu
  rw [hy] at hI0
  have hI := Lib.hid hI0
  have hR := Lib.hid (Row1.start w #[.int .u32 E, .int .u32 S] 33)
  clear hI0 hy hyu
  go_enter Tryz.func74, Tryz.ntmps74
  go_wp2_with (go_at_call 91; refine (hI.out _).mono ?_; rintro e w' ⟨rfl, g⟩; have hR := Lib.hid (hR.out.step g); clear g)
  go_ret
  exact ⟨rfl, hR.out.1⟩
theorem verify_long (y : Nat) (hy : grp.inG y = true) (ma : Option Addr) (n c : Nat) (hn : 9991 < n) (E S : Int) (w : World) :
    Calls Tryz.prog 74 #[.int .u32 (y : Int), .slice ma n c, .agg #[.int .u32 E, .int .u32 S]] w fun e w' => e = .returned (.int .i64 4) ∧ Below w.heap.size w w' := by
  have hI0 := grp.is_any y (grp.inG_u32 hy)
  rw [hy] at hI0
  have hI := Lib.hid hI0
  have hl0 := tooLong_any ma n c
  rw [decide_eq_true hn] at hl0
  have hl := Lib.hid hl0
  have hR := Lib.hid (Row1.start w #[.int .u32 E, .int .u32 S] 33)
  clear hI0 hy hl0 hn
  go_enter Tryz.func74, Tryz.ntmps74
  go_wp2_with (first | (go_at_call 91; refine (hI.out _).mono ?_; rintro e w' ⟨rfl, g⟩; have hR := Lib.hid (hR.out.step g); clear g) | (go_at_call 101; refine (hl.out _).mono ?_; rintro e w' ⟨rfl, rfl⟩))
  go_ret
  exact ⟨rfl, hR.out.1⟩
theorem verify_any (y : Nat) (hy : grp.inG y = true) (S E : Nat) (hS : S < 4294967296) (hE : E < 4294967296) (mv : Value) (m : List Int) (w : World) (hm : RdB w mv m) (hmb : Bytes m) (hml : m.length ≤ 9991) (hgl : GlobW w) :
    Calls Tryz.prog 74 #[.int .u32 (y : Int), mv, .agg #[.int .u32 (E : Int), .int .u32 (S : Int)]] w fun e w' => e = .returned (.int .i64 (if rightB y m S E then 0 else 22)) ∧ Below w.heap.size w w' := by
  have hI0 := grp.is_any y (grp.inG_u32 hy)
  rw [hy] at hI0
  have hI := Lib.hid hI0
  obtain ⟨ma, mc, rfl⟩ := hm.slice
  have hl0 := tooLong_any ma m.length mc
  rw [decide_eq_false (by omega)] at hl0
  have hl := Lib.hid hl0
  have hR := Lib.hid (Row1.start w #[.int .u32 (E : Int), .int .u32 (S : Int)] 33)
  have hV := Lib.hid (fun wi (o : Row1 w wi #[.int .u32 (E : Int), .int .u32 (S : Int)] 33) => right_any y hy S E hS hE _ m wi (hm.mono o.1) hmb hml (hgl.mono o.1))
  generalize rightB y m S E = b at *
  generalize m.length = n at *
  clear hI0 hy hl0 hm hmb hgl hS hE
  cases b
  · go_enter Tryz.func74, Tryz.ntmps74
    go_wp2_with (first | (go_at_call 91; refine (hI.out _).mono ?_; rintro e w' ⟨rfl, g⟩; have hR := Lib.hid (hR.out.step g); clear g) | (go_at_call 101; refine (hl.out _).mono ?_; rintro e w' ⟨rfl, rfl⟩) | (refine wpList_load_row rfl 33 _ rfl w.heap.size rfl 33 _ (0, 0) _ hR.out.2 Tryz.underlying33 rfl sig_info ?_) | (go_at_call 102; refine (hV.out _ hR.out).mono ?_; rintro e w' ⟨rfl, g⟩; have hR := Lib.hid (hR.out.step g); clear g))
    go_ret
    exact ⟨rfl, hR.out.1⟩
  · go_enter Tryz.func74, Tryz.ntmps74
    go_wp2_with (first | (go_at_call 91; refine (hI.out _).mono ?_; rintro e w' ⟨rfl, g⟩; have hR := Lib.hid (hR.out.step g); clear g) | (go_at_call 101; refine (hl.out _).mono ?_; rintro e w' ⟨rfl, rfl⟩) | (refine wpList_load_row rfl 33 _ rfl w.heap.size rfl 33 _ (0, 0) _ hR.out.2 Tryz.underlying33 rfl sig_info ?_) | (go_at_call 102; refine (hV.out _ hR.out).mono ?_; rintro e w' ⟨rfl, g⟩; have hR := Lib.hid (hR.out.step g); clear g))
    go_ret
    exact ⟨rfl, hR.out.1⟩
end Go.Proofs.YtnknkiiikeefgaaGreatDoor

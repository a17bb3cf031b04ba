/- Contracts of the reference's turn, First, constants and Cmp. Contract of the reference's written. Contract of the reference's tail. Contract of the reference's constants. -/
import Derived.Test.YtegffpjhdodldaaD01h
import Derived.Test.YtegffpjhdodldaaLibD
import Derived.Deep.QuietTactic
namespace Go.Proofs.Ytegffpjhdodldaa
open Go.RowKit Go.Ytegffpjhdodldaa
set_option linter.unusedVariables false
theorem bits_or_comm (k : IntKind) (a b : Int) : bits .or k a b = bits .or k b a := by
  unfold bits
  simp only [BitVec.or_comm]
set_option maxRecDepth 100000 in
theorem rcmp_any (a b : List Int) (w : World) (ha : a.length = 32) (hb : b.length = 32) (h1 : Bytes a) (h2 : Bytes b) :
    Calls Try.prog 38 #[.agg (u8s a), .agg (u8s b)] w fun e w' => e = .returned (.int .i64 (cmpF a b)) ∧ Below w.heap.size w w' := by
  have ha' := Lib.hid ha; have hb' := Lib.hid hb
  clear ha hb h1 h2
  go_enter Try.func38, Try.ntmps38
  go_wp2
  have r1 := hp1 (w.alloc (.cells (u8s a) 58)) (.cells (u8s b) 58) w.heap.size (by simp)
  have r1 := Lib.hid (r1.trans (heap_alloc_new w _))
  have r2 := Lib.hid (hn2 w (.cells (u8s a) 58) (.cells (u8s b) 58))
  have hB := Lib.hid (show Below w.heap.size w ((w.alloc (.cells (u8s a) 58)).alloc (.cells (u8s b) 58)) from ((Below.refl _ _).alloc (Nat.le_refl _) _).alloc (by simp) _)
  generalize (w.alloc (.cells (u8s a) 58)).alloc (.cells (u8s b) 58) = W at *
  go_loopw [5] (fun i wr => ∃ k : Nat, k ≤ 32 ∧ i = .int .i64 k ∧ (∀ j, j < k → ith b j = ith a j) ∧ Draws W wr) (fun i _ => match i with | .int _ m => 32 - m.toNat | _ => 0)
  case atStart => exact ⟨0, by omega, rfl, fun j hj => absurd hj (Nat.not_lt_zero _), Draws.refl _⟩
  case round =>
    obtain ⟨k, hk, rfl, heq, hd⟩ := hrel
    have heq' := Lib.hid heq
    clear heq
    by_cases hlt : k < 32
    · have c1 : wr.cell? ⟨w.heap.size, k, none⟩ = some (.int .u8 (ith a k)) := by
        rw [hd.cell, cell_of_row _ _ _ _ _ _ r1.out]; exact u8s_get _ _ (by rw [ha'.out]; exact hlt)
      have c2 : wr.cell? ⟨w.heap.size + 1, k, none⟩ = some (.int .u8 (ith b k)) := by
        rw [hd.cell, cell_of_row _ _ _ _ _ _ r2.out]; exact u8s_get _ _ (by rw [hb'.out]; exact hlt)
      generalize hx : ith a k = x at c1
      generalize hy : ith b k = y at c2
      have hx' := Lib.hid hx; have hy' := Lib.hid hy; have hd' := Lib.hid hd
      clear hx hy
      by_cases h1 : x < y
      · have hc := cmp_less k a b (by rw [ha'.out]; exact hlt) (by rw [hb'.out]; exact hlt) heq'.out (by rw [hx'.out, hy'.out]; exact h1)
        have hc' := Lib.hid hc; clear hc
        go_wp2
        go_quiet (fail)
        go_wp2
        go_ret
        exact ⟨congrArg (fun z => Ending.returned (Value.int .i64 z)) hc'.out.symm, (hd'.out.drewN _).below hB.out⟩
      · by_cases h2 : y < x
        · have hc := cmp_less k b a (by rw [hb'.out]; exact hlt) (by rw [ha'.out]; exact hlt) (fun j hj => (heq'.out j hj).symm) (by rw [hx'.out, hy'.out]; exact h2)
          have hc2 : cmpF a b = 1 := by rw [cmp_anti b a, hc]; rfl
          have hc' := Lib.hid hc2; clear hc hc2
          go_wp2
          go_quiet (fail)
          go_wp2
          go_quiet (fail)
          go_wp2
          go_ret
          exact ⟨congrArg (fun z => Ending.returned (Value.int .i64 z)) hc'.out.symm, ((hd'.out.drewN _).drewN _).below hB.out⟩
        · go_wp2
          go_quiet (fail)
          go_wp2
          go_quiet (fail)
          go_wp2
          go_roundw
          case rel =>
            refine ⟨k + 1, by omega, by go_num, fun j hj => ?_, hd'.out.drewN _⟩
            by_cases hjk : j = k
            · subst hjk; rw [hx'.out, hy'.out]; omega
            · exact heq'.out j (by omega)
          case measure => go_num
    · have hk32 : k = 32 := by omega
      subst hk32
      have hab : b = a := by
        apply List.ext_getElem (by rw [ha'.out, hb'.out])
        intro i h1 h2
        have := heq'.out i (by rw [hb'.out] at h1; exact h1)
        simpa [ith, h1, h2] using this
      have hc' := Lib.hid (show cmpF a b = 0 by rw [hab]; exact cmp_self a); clear hab
      go_wp2
      go_ret
      exact ⟨congrArg (fun z => Ending.returned (Value.int .i64 z)) hc'.out.symm, hd.below hB.out⟩
end Go.Proofs.Ytegffpjhdodldaa
namespace Go.Proofs.Ytegffpjhdodldaa
open Go.RowKit Go.Ytegffpjhdodldaa
set_option linter.unusedVariables false
def wF (V : V8) (i : Nat) : Int := ith V.list (i / 4) / 2 ^ (24 - 8 * (i % 4)) % 256
def PL (V : V8) (k : Nat) : List Int := (List.range 32).map fun i => if i < k then wF V i else 0
theorem PL_length (V : V8) (k : Nat) : (PL V k).length = 32 := by simp [PL]
theorem PL_set (V : V8) (k : Nat) (h : k < 32) : (PL V k).set k (wF V k) = PL V (k + 1) := by
  apply List.ext_getElem (by simp [PL])
  intro i h1 h2
  have hi : i < 32 := by simpa [PL] using h2
  rw [List.getElem_set]
  simp only [PL, List.getElem_map, List.getElem_range]
  by_cases hk : k = i
  · subst hk; simp
  · simp only [hk, if_false]
    by_cases hlt : i < k
    · rw [if_pos hlt, if_pos (by omega)]
    · rw [if_neg hlt, if_neg (by omega)]
theorem be4_w (x : Int) (hx : In32 x) : be4 x = [x / 2 ^ 24 % 256, x / 2 ^ 16 % 256, x / 2 ^ 8 % 256, x / 2 ^ 0 % 256] := by
  obtain ⟨h1, h2⟩ := hx
  unfold be4
  rw [show (2 : Int) ^ 24 = 16777216 from rfl, show (2 : Int) ^ 16 = 65536 from rfl, show (2 : Int) ^ 8 = 256 from rfl, show (2 : Int) ^ 0 = 1 from rfl, Int.ediv_one, show x / 16777216 % 256 = x / 16777216 by omega]
theorem PL_all (V : V8) (h : V.ok) : PL V 32 = writtenF V := by
  obtain ⟨ha, hb, hc, hd, he, hf, hg, hh⟩ := h
  show _ = be4 V.a ++ be4 V.b ++ be4 V.c ++ be4 V.d ++ be4 V.e ++ be4 V.f ++ be4 V.g ++ be4 V.h
  rw [be4_w _ ha, be4_w _ hb, be4_w _ hc, be4_w _ hd, be4_w _ he, be4_w _ hf, be4_w _ hg, be4_w _ hh]
  rfl
end Go.Proofs.Ytegffpjhdodldaa
namespace Go.Proofs.Ytegffpjhdodldaa
open Go.RowKit Go.Ytegffpjhdodldaa
set_option linter.unusedVariables false
def tl (z : Nat) : List Int := 128 :: List.replicate z 0
theorem tl_length (z : Nat) : (tl z).length = z + 1 := by simp [tl]
theorem tl_succ (z : Nat) : tl z ++ [0] = tl (z + 1) := by simp [tl, List.replicate_succ']
def b8 (n j : Nat) : Int := 8 * (n : Int) / 2 ^ (8 * (7 - j)) % 256
def b8N (n : Nat) : Nat → List Int
  | 0 => []
  | j + 1 => b8N n j ++ [b8 n j]
theorem b8_all (n : Nat) (h : n ≤ 300000) : b8N n 8 = [0, 0, 0, 0] ++ be4 (8 * (n : Int)) := by
  show [b8 n 0, b8 n 1, b8 n 2, b8 n 3, b8 n 4, b8 n 5, b8 n 6, b8 n 7] = [0, 0, 0, 0, 8 * (n : Int) / 16777216, 8 * (n : Int) / 65536 % 256, 8 * (n : Int) / 256 % 256, 8 * (n : Int) % 256]
  have e0 : b8 n 0 = 0 := by show 8 * (n : Int) / 72057594037927936 % 256 = 0; omega
  have e1 : b8 n 1 = 0 := by show 8 * (n : Int) / 281474976710656 % 256 = 0; omega
  have e2 : b8 n 2 = 0 := by show 8 * (n : Int) / 1099511627776 % 256 = 0; omega
  have e3 : b8 n 3 = 0 := by show 8 * (n : Int) / 4294967296 % 256 = 0; omega
  have e4 : b8 n 4 = 8 * (n : Int) / 16777216 := by show 8 * (n : Int) / 16777216 % 256 = _; omega
  have e5 : b8 n 5 = 8 * (n : Int) / 65536 % 256 := rfl
  have e6 : b8 n 6 = 8 * (n : Int) / 256 % 256 := rfl
  have e7 : b8 n 7 = 8 * (n : Int) % 256 := by show 8 * (n : Int) / 1 % 256 = _; omega
  rw [e0, e1, e2, e3, e4, e5, e6, e7]
theorem rd_lit (w : World) (x : Int) : RdB (w.alloc (.cells #[.int .u8 x] 5)) (.slice (some ⟨w.heap.size, 0, none⟩) 1 1) [x] := .inr ⟨w.heap.size, 0, 1, rfl, Nat.le_refl _, by decide, by simp, fun i hi => by
  have hi0 : i = 0 := by simpa using hi
  subst hi0
  rw [Nat.zero_add, cell_of_row _ _ _ _ _ _ (heap_alloc_new w _)]; rfl⟩
def zT (n : Nat) : Nat := (64 - (n + 9) % 64) % 64
end Go.Proofs.Ytegffpjhdodldaa
namespace Go.Proofs.Ytegffpjhdodldaa
open Go.RowKit Go.Ytegffpjhdodldaa
set_option linter.unusedVariables false
end Go.Proofs.Ytegffpjhdodldaa

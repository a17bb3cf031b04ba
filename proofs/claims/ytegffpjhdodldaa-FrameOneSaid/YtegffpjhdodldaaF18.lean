/- Layer 7: contracts of the laws' own functions: ids that rise. -/
import Derived.Test.YtegffpjhdodldaaF17
namespace Go.Proofs.Ytegffpjhdodldaa
open Go.RowKit Go.Ytegffpjhdodldaa
set_option linter.unusedVariables false
def idOf (k : Int) : List Int := k :: zerosB 31
def risF : Nat → List Int
  | 0 => []
  | k + 1 => risF k ++ idOf k
set_option maxHeartbeats 2000000 in
set_option maxRecDepth 100000 in
theorem ups_any (n : Nat) (hn : n ≤ 200) (w : World) :
    Calls Try.prog 25 #[.int .i64 n] w fun e w' => ∃ a c, e = .returned (.slice a n c) ∧ OwnI w.heap.size 58 w' (.slice a n c) n (risF n) ∧ Below w.heap.size w w' := by
  go_enter Try.func25, Try.ntmps25
  go_wp2
  go_loopw [3, 4] (fun x i wr => ∃ k : Nat, k ≤ n ∧ i = .int .i64 k ∧ OwnI w.heap.size 58 wr x k (risF k) ∧ Below w.heap.size w wr) (fun _ i _ => n - (intOf i).toNat)
  case atStart => exact ⟨0, by omega, rfl, OwnI.nil w _ _, Below.refl _ _⟩
  case round =>
    obtain ⟨k, hk, rfl, ho, hb⟩ := hrel
    have ho' := Lib.hid ho; have hb' := Lib.hid hb
    clear ho hb
    by_cases hlt : k < n
    · go_wp2_with (refine appendI rfl _ _ 23 rfl w.heap.size 58 Try.underlying23 (by kernel_rfl) _ rfl k (risF k) (ho'.out.kept (below_a wr (.cells (u8s (idOf k)) 58))) wr.heap.size 1 rfl (idOf k) (by simp [idOf, zerosB_length]) 58 (heap_alloc_new wr _) (by omega) (by have := hb'.out.size; simp; omega) ?_)
      intro v' w' h1 h2
      have hb2 := Lib.hid ((hb'.out.alloc hb'.out.size (.cells (u8s (idOf k)) 58)).trans ((ho'.out.kept (below_a wr (.cells (u8s (idOf k)) 58))).below h2 (by have := hb'.out.size; simp; omega)))
      have ho2 := Lib.hid h1
      clear h1 h2
      refine Stop.go ?_
      go_wp2
      go_roundw
      case rel => exact ⟨k + 1, by omega, by go_num, ho2.out, hb2.out⟩
      case measure => simp [intOf]; omega
    · obtain rfl : k = n := by omega
      obtain ⟨va, vc, rfl⟩ := ho'.out.rd.slice
      go_wp2
      go_ret
      exact ⟨va, vc, rfl, ho'.out, hb'.out⟩
end Go.Proofs.Ytegffpjhdodldaa

/- Contracts of the reference's SameBytes and Same, for equal ones. -/
import Derived.Test.YtfncepfjnljhlaaDoorD01q
import Derived.Test.YtfncepfjnljhlaaDoorLibD
import Derived.Test.YtfncepfjnljhlaaDoorLibE
namespace Go.Proofs.YtfncepfjnljhlaaDoor
open Go.RowKit Go.YtfncepfjnljhlaaDoor
set_option linter.unusedVariables false
set_option maxRecDepth 100000 in
theorem sameb_yes (a1 a2 : Option Addr) (c1 c2 n : Nat) (l : List Int) (w : World) (hn : l.length = n) (hm : n ≤ 140737488355328) (h1 : RdB w (.slice a1 n c1) l) (h2 : RdB w (.slice a2 n c2) l) :
    Calls Tryd.prog 26 #[.slice a1 n c1, .slice a2 n c2] w fun e w' => e = .returned (.bool true) ∧ Below w.heap.size w w' := by
  have h1' := Lib.hid h1; have h2' := Lib.hid h2; have hn' := Lib.hid hn
  clear h1 h2 hn
  go_enter Tryd.func26, Tryd.ntmps26
  go_wp2
  go_loopw [5] (fun i wr => ∃ k : Nat, k ≤ n ∧ i = .int .i64 k ∧ Draws w wr) (fun i _ => match i with | .int _ m => n - m.toNat | _ => 0)
  case atStart => exact ⟨0, Nat.zero_le _, rfl, Draws.refl _⟩
  case round =>
    obtain ⟨k, hk, rfl, hd⟩ := hrel
    by_cases hlt : k < n
    · obtain ⟨b, o, rfl, _, e1⟩ := rd_at h1'.out k (by rw [hn'.out]; exact hlt)
      obtain ⟨b', o', rfl, _, e2⟩ := rd_at h2'.out k (by rw [hn'.out]; exact hlt)
      have c1 := (hd.cell _).trans e1
      have c2 := (hd.cell _).trans e2
      go_wp2
      go_quiet (fail)
      go_wp2
      go_roundw
      case rel => exact ⟨k + 1, by omega, by go_num, hd.drewN _⟩
      case measure => go_num
    · go_wp2
      go_ret
      exact ⟨rfl, hd.below (Below.refl _ _)⟩
def millV (V : V8) (r : Value) (N : Int) : Value := .agg #[.int .u32 V.a, .int .u32 V.b, .int .u32 V.c, .int .u32 V.d, .int .u32 V.e, .int .u32 V.f, .int .u32 V.g, .int .u32 V.h, r, .int .i64 N]
set_option maxRecDepth 100000 in
set_option maxHeartbeats 1000000 in
theorem same_yes (V : V8) (r1 r2 : Value) (l : List Int) (N : Int) (w : World) (hm : l.length ≤ 140737488355328) (h1 : RdB w r1 l) (h2 : RdB w r2 l) :
    Calls Tryd.prog 29 #[millV V r1 N, millV V r2 N] w fun e w' => e = .returned (.bool true) ∧ Below w.heap.size w w' := by
  obtain ⟨a1, c1, rfl⟩ := h1.slice
  obtain ⟨a2, c2, rfl⟩ := h2.slice
  have heq := fun (wz : World) => run_equalArrW (P := Tryd.prog) wz 9998 33 32 8 Tryd.underlying33 Tryd.underlying32 (by kernel_rfl) V.list V.list rfl rfl
  simp only [decide_true] at heq
  have heq2 : ∀ wz, (Op.equalIn 10000 33 (.agg #[.int .u32 V.a, .int .u32 V.b, .int .u32 V.c, .int .u32 V.d, .int .u32 V.e, .int .u32 V.f, .int .u32 V.g, .int .u32 V.h]) (.agg #[.int .u32 V.a, .int .u32 V.b, .int .u32 V.c, .int .u32 V.d, .int .u32 V.e, .int .u32 V.f, .int .u32 V.g, .int .u32 V.h])).run Tryd.prog wz = .ok true wz := heq
  have hs : ∀ o1 o2, Calls Tryd.prog 26 #[.slice a1 l.length c1, .slice a2 l.length c2] ((w.alloc o1).alloc o2) fun e w' => e = .returned (.bool true) ∧ Below w.heap.size w w' := by
    intro o1 o2
    have hB : Below w.heap.size w ((w.alloc o1).alloc o2) := ((Below.refl _ _).alloc (Nat.le_refl _) _).alloc (by simp) _
    refine (sameb_yes a1 a2 c1 c2 _ l _ rfl hm (h1.mono hB) (h2.mono hB)).mono ?_
    rintro e w' ⟨he, hb⟩
    exact ⟨he, hB.trans (hb.mono (by simp; omega))⟩
  have hs' := Lib.hid hs
  clear heq hs h1 h2 hm
  generalize l.length = n at *
  unfold millV
  go_enter Tryd.func29, Tryd.ntmps29
  go_wp2_with (go_at_call 26; refine (hs'.out _ _).mono ?_; rintro e w' ⟨rfl, hb⟩; have hb' := Lib.hid hb; clear hb)
  go_ret
  exact ⟨rfl, hb'.out⟩
end Go.Proofs.YtfncepfjnljhlaaDoor

/- The row's steps of the laws over values. -/
import Derived.Test.YtpklfohaifeboaaRowW
import Derived.Test.YtpklfohaifeboaaV02
import Derived.Lib.SmallJoins
import Derived.ChangeMaps5
namespace Go.Proofs.Ytpklfohaifeboaa
open Go.ChangeShapes Go.WideShapes Go.ChangeAt Go.WideMaps Go.WideElems Go.RowKit Go.Joins Go.Ytpklfohaifeboaa
set_option linter.unusedVariables false
section
variable {H : Type} {enc : TypeId × Value → H} {W : World}
set_option maxRecDepth 10000 in
theorem open_val {v : Value} {d : DataW H} {p : List MemPlace} {r : Reach} {b0 : Nat} (hv : Value.okWide Try.prog W r b0 26 v) (h : DataW.Trod enc Try.prog W 0 (fun _ => true) true 26 v d p) :
    ∃ (k n : Int) (b : Nat) (s : ByteArray), v = vA k n b s ∧ (0 ≤ k ∧ k < 256) ∧ (-9223372036854775808 ≤ n ∧ n ≤ 9223372036854775807) ∧ b < 18446744073709551616 ∧ s.size ≤ maxLen := by
  obtain ⟨v0, v1, v2, v3, y0, y1, y2, y3, m, rfl, _, _, e0, e1, e2, e3⟩ := open_agg4 Try.underlying26 (by kernel_rfl) (by kernel_rfl) hv h
  obtain ⟨k, a0, _, w0⟩ := DataW.trod_int Try.underlying5 e0
  obtain ⟨n, a1, _, w1⟩ := DataW.trod_int Try.underlying2 e1
  obtain ⟨b, a2, _, w2⟩ := DataW.trod_int Try.underlying23 e2
  obtain ⟨s, a3, _, w3⟩ := DataW.trod_string Try.underlying9 e3
  obtain ⟨b, rfl, hb⟩ := natOf64 b w2
  have hk : 0 ≤ k ∧ k ≤ 255 := by simpa [Lit.wf, IntKind.min, IntKind.max, IntKind.signed, IntKind.bits] using w0
  refine ⟨k, n, b, s, ?_, ⟨hk.1, by omega⟩, boundsOf64 n w1, hb, w3⟩
  rw [(List.cons.inj a0).1, (List.cons.inj a1).1, (List.cons.inj a2).1, (List.cons.inj a3).1]
end
end Go.Proofs.Ytpklfohaifeboaa

/- Contracts of digest.turn, digest.wordOf and digest.grind: what each call returns, and that it changes nothing that was there. -/
import Derived.Test.YtegffpjhdodldaaProg
import Derived.Test.YtegffpjhdodldaaLib
import Derived.Deep.QuietTactic
import Derived.BigQuiet
import Derived.Handy
namespace Go.Proofs.Ytegffpjhdodldaa
open Go.RowKit Go.Ytegffpjhdodldaa
set_option linter.unusedVariables false
variable {Tg Tf : TypeId}
theorem and31 (n : Nat) (h : 1 ≤ n) (h2 : n ≤ 31) : bits BinOp.and IntKind.u64 (IntKind.u64.wrap (-(n : Int))) 31 = 32 - (n:Int) := by
  have : ∀ m : Fin 32, 1 ≤ m.val → bits BinOp.and IntKind.u64 (IntKind.u64.wrap (-((m.val : Nat) : Int))) 31 = 32 - ((m.val : Nat):Int) := by decide +kernel
  exact this ⟨n, by omega⟩ h
theorem word_or (a b c d : Int) (ha : 0 ≤ a ∧ a < 256) (hb : 0 ≤ b ∧ b < 256) (hc : 0 ≤ c ∧ c < 256) (hd : 0 ≤ d ∧ d < 256) :
    bits BinOp.or IntKind.u32 (bits BinOp.or IntKind.u32 (bits BinOp.or IntKind.u32 (a * 16777216) (b * 65536)) (c * 256)) d = word4 a b c d := by
  unfold word4
  go_bits2
end Go.Proofs.Ytegffpjhdodldaa

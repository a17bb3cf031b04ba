/-
  No cell of these rows narrows 'for every input' (looked for: loops, veiled, ifaces, maps, wideKeys, modest, calm, conditions, laid).
  DERIVED. THE GIVEN ROWS OF THIS SEAT. 7 by the template 'for every input the law returns true; each argument reads behind the call as it read before'; 0 by the template 'total and deterministic' (their statements: YtlmacnehoddjfaaTotals.lean).
  GIVEN WITH THE SEED: the statements are not yours to turn. If you find one false, say at which input.
  Laid BY PROGRAM, IN A SANDBOX (cutbox-rows.mjs): the forced cells as the released guide's own fill.sh prints them over the translation 4aee628a961cdc6c… (all of the seat's roots in one cut). By AI agents, Wed Nov 11 2026. No macro, syntax, notation, axiom, sorry.
-/
import Derived.Test.YtlmacnehoddjfaaChecked
import GoSem.Claim
import GoSem.ClaimJoined
import GoSem.ClaimMapViews
import Derived.JoinedTies
import Derived.KernelRfl
namespace Go.Proofs.Ytlmacnehoddjfaa
/- THE CELL 'sum', in the pinned program and in every row, IS THE sha256 OF THE DUMP (.gsa) THAT YtlmacnehoddjfaaProg.lean LOADS. Nothing in Lean hashes anything: it is a label: what it is worth is what the hold of that sum in a sandbox is worth. -/
noncomputable def Try.pinned : Pinned := { name := "ytlmacnehoddjfaa", sum := "4aee628a961cdc6c9b93b12c342cff806ef186cff0b37c7271bb3af880198e24", checked := Try.checked }
namespace Rows
def none {H : Type} : Left H := { results := [], args := [] }

/-- 'braidlaw02.GroupNames': WHATEVER THE INPUT: true; the input reads as it did. -/
def groupNamesSpec : ChangeSpec := { name := "groupNames", fn := fun _ => fun
  | [] => { results := [.lit (.bool true)], args := [] }
  | _ => none }
def groupNamesRow : OpenClaim := { program := "ytlmacnehoddjfaa", sum := "4aee628a961cdc6c9b93b12c342cff806ef186cff0b37c7271bb3af880198e24", func := "braid/braidlaw02.GroupNames", spec := "groupNames", unfollowed := true, recurses := true, apart := false }
def GroupNamesSaid : Prop := groupNamesRow.holds Try.pinned (OpenSpec.ofChange groupNamesSpec)

/-- ITS FALSE NEIGHBOUR: 'it returns false'. Refute it at one input. -/
def groupNamesWrong : ChangeSpec := { name := "groupNames", fn := fun _ => fun
  | [] => { results := [.lit (.bool false)], args := [] }
  | _ => none }
def GroupNamesWrongFalsely : Prop := groupNamesRow.holds Try.pinned (OpenSpec.ofChange groupNamesWrong)

/-- 'braidlaw02.GroupMakes': WHATEVER THE INPUT: true; the input reads as it did. -/
def groupMakesSpec : ChangeSpec := { name := "groupMakes", fn := fun _ => fun
  | [d1, d2, d3] => { results := [.lit (.bool true)], args := [d1, d2, d3] }
  | _ => none }
def groupMakesRow : OpenClaim := { program := "ytlmacnehoddjfaa", sum := "4aee628a961cdc6c9b93b12c342cff806ef186cff0b37c7271bb3af880198e24", func := "braid/braidlaw02.GroupMakes", spec := "groupMakes", unfollowed := true, recurses := true, apart := false }
def GroupMakesSaid : Prop := groupMakesRow.holds Try.pinned (OpenSpec.ofChange groupMakesSpec)

/-- ITS FALSE NEIGHBOUR: 'it returns false'. Refute it at one input. -/
def groupMakesWrong : ChangeSpec := { name := "groupMakes", fn := fun _ => fun
  | [d1, d2, d3] => { results := [.lit (.bool false)], args := [d1, d2, d3] }
  | _ => none }
def GroupMakesWrongFalsely : Prop := groupMakesRow.holds Try.pinned (OpenSpec.ofChange groupMakesWrong)

/-- 'braidlaw02.GroupExponents': WHATEVER THE INPUT: true; the input reads as it did. -/
def groupExponentsSpec : ChangeSpec := { name := "groupExponents", fn := fun _ => fun
  | [d1, d2] => { results := [.lit (.bool true)], args := [d1, d2] }
  | _ => none }
def groupExponentsRow : OpenClaim := { program := "ytlmacnehoddjfaa", sum := "4aee628a961cdc6c9b93b12c342cff806ef186cff0b37c7271bb3af880198e24", func := "braid/braidlaw02.GroupExponents", spec := "groupExponents", unfollowed := true, recurses := true, apart := false }
def GroupExponentsSaid : Prop := groupExponentsRow.holds Try.pinned (OpenSpec.ofChange groupExponentsSpec)

/-- ITS FALSE NEIGHBOUR: 'it returns false'. Refute it at one input. -/
def groupExponentsWrong : ChangeSpec := { name := "groupExponents", fn := fun _ => fun
  | [d1, d2] => { results := [.lit (.bool false)], args := [d1, d2] }
  | _ => none }
def GroupExponentsWrongFalsely : Prop := groupExponentsRow.holds Try.pinned (OpenSpec.ofChange groupExponentsWrong)

/-- 'braidlaw02.GroupPowers': WHATEVER THE INPUT: true; the input reads as it did. -/
def groupPowersSpec : ChangeSpec := { name := "groupPowers", fn := fun _ => fun
  | [d1, d2, d3, d4] => { results := [.lit (.bool true)], args := [d1, d2, d3, d4] }
  | _ => none }
def groupPowersRow : OpenClaim := { program := "ytlmacnehoddjfaa", sum := "4aee628a961cdc6c9b93b12c342cff806ef186cff0b37c7271bb3af880198e24", func := "braid/braidlaw02.GroupPowers", spec := "groupPowers", unfollowed := true, recurses := true, apart := false }
def GroupPowersSaid : Prop := groupPowersRow.holds Try.pinned (OpenSpec.ofChange groupPowersSpec)

/-- ITS FALSE NEIGHBOUR: 'it returns false'. Refute it at one input. -/
def groupPowersWrong : ChangeSpec := { name := "groupPowers", fn := fun _ => fun
  | [d1, d2, d3, d4] => { results := [.lit (.bool false)], args := [d1, d2, d3, d4] }
  | _ => none }
def GroupPowersWrongFalsely : Prop := groupPowersRow.holds Try.pinned (OpenSpec.ofChange groupPowersWrong)

/-- 'braidlaw02.GroupBack': WHATEVER THE INPUT: true; the input reads as it did. -/
def groupBackSpec : ChangeSpec := { name := "groupBack", fn := fun _ => fun
  | [d1, d2] => { results := [.lit (.bool true)], args := [d1, d2] }
  | _ => none }
def groupBackRow : OpenClaim := { program := "ytlmacnehoddjfaa", sum := "4aee628a961cdc6c9b93b12c342cff806ef186cff0b37c7271bb3af880198e24", func := "braid/braidlaw02.GroupBack", spec := "groupBack", unfollowed := true, recurses := true, apart := false }
def GroupBackSaid : Prop := groupBackRow.holds Try.pinned (OpenSpec.ofChange groupBackSpec)

/-- ITS FALSE NEIGHBOUR: 'it returns false'. Refute it at one input. -/
def groupBackWrong : ChangeSpec := { name := "groupBack", fn := fun _ => fun
  | [d1, d2] => { results := [.lit (.bool false)], args := [d1, d2] }
  | _ => none }
def GroupBackWrongFalsely : Prop := groupBackRow.holds Try.pinned (OpenSpec.ofChange groupBackWrong)

/-- 'braidlaw02.GroupRules': WHATEVER THE INPUT: true; the input reads as it did. -/
def groupRulesSpec : ChangeSpec := { name := "groupRules", fn := fun _ => fun
  | [d1, d2, d3, d4] => { results := [.lit (.bool true)], args := [d1, d2, d3, d4] }
  | _ => none }
def groupRulesRow : OpenClaim := { program := "ytlmacnehoddjfaa", sum := "4aee628a961cdc6c9b93b12c342cff806ef186cff0b37c7271bb3af880198e24", func := "braid/braidlaw02.GroupRules", spec := "groupRules", unfollowed := true, recurses := true, apart := false }
def GroupRulesSaid : Prop := groupRulesRow.holds Try.pinned (OpenSpec.ofChange groupRulesSpec)

/-- ITS FALSE NEIGHBOUR: 'it returns false'. Refute it at one input. -/
def groupRulesWrong : ChangeSpec := { name := "groupRules", fn := fun _ => fun
  | [d1, d2, d3, d4] => { results := [.lit (.bool false)], args := [d1, d2, d3, d4] }
  | _ => none }
def GroupRulesWrongFalsely : Prop := groupRulesRow.holds Try.pinned (OpenSpec.ofChange groupRulesWrong)

/-- 'braidlaw02.GroupHalf': WHATEVER THE INPUT: true; the input reads as it did. -/
def groupHalfSpec : ChangeSpec := { name := "groupHalf", fn := fun _ => fun
  | [d] => { results := [.lit (.bool true)], args := [d] }
  | _ => none }
def groupHalfRow : OpenClaim := { program := "ytlmacnehoddjfaa", sum := "4aee628a961cdc6c9b93b12c342cff806ef186cff0b37c7271bb3af880198e24", func := "braid/braidlaw02.GroupHalf", spec := "groupHalf", unfollowed := true, recurses := true, apart := false }
def GroupHalfSaid : Prop := groupHalfRow.holds Try.pinned (OpenSpec.ofChange groupHalfSpec)

/-- ITS FALSE NEIGHBOUR: 'it returns false'. Refute it at one input. -/
def groupHalfWrong : ChangeSpec := { name := "groupHalf", fn := fun _ => fun
  | [d] => { results := [.lit (.bool false)], args := [d] }
  | _ => none }
def GroupHalfWrongFalsely : Prop := groupHalfRow.holds Try.pinned (OpenSpec.ofChange groupHalfWrong)

/- THE SECOND FORM. 'bulk': how many values and letters a reading holds, each counted each time it is reached (what is shared counts as often as it is met; a slice's spare places count too). A statement '..UptoSaid' is the law's where the arguments, and the package variables that the reading takes, are together of bulk at most 1048576: NARROWER than '..Said'. Prove '..Said' where nothing that the law and all that it calls make is longer than what came in: it says more and counts as full. Else prove '..UptoSaid'. A law counts once. -/
mutual
def uptoBulk {H : Type} : DataW H → Nat
  | .lit (.string bytes) => bytes.length + 1
  | .lit _ => 1
  | .nil => 1
  | .ptr d => uptoBulk d + 1
  | .slice elems spare => uptoBulkAll elems + uptoBulkAll spare + 1
  | .agg parts => uptoBulkAll parts + 1
  | .iface _ d => uptoBulk d + 1
  | .map entries => uptoBulkEntries entries + 1
  | .held _ => 1
def uptoBulkAll {H : Type} : List (DataW H) → Nat
  | [] => 0
  | d :: r => uptoBulk d + uptoBulkAll r
def uptoBulkEntries {H : Type} : List (Lit × DataW H) → Nat
  | [] => 0
  | x :: r => uptoBulkEntry x + uptoBulkEntries r
def uptoBulkEntry {H : Type} : Lit × DataW H → Nat
  | (.string bytes, d) => bytes.length + uptoBulk d + 1
  | (_, d) => uptoBulk d + 1
 end
def uptoSmall : (H : Type) → List (DataW H) → Bool := fun _ ds => decide (uptoBulkAll ds ≤ 1048576)
def OpenSpec.upto (s : _root_.Go.ChangeSpec) : _root_.Go.OpenSpec := { _root_.Go.OpenSpec.ofChange s with cond := some uptoSmall }

/-- 'braidlaw02.GroupNames', WHERE WHAT IT READS IS OF BULK AT MOST 1048576: true; the input reads as it did. -/
def groupNamesUptoRow : OpenClaim := { program := "ytlmacnehoddjfaa", sum := "4aee628a961cdc6c9b93b12c342cff806ef186cff0b37c7271bb3af880198e24", func := "braid/braidlaw02.GroupNames", spec := "groupNames", unfollowed := true, recurses := true, apart := false, narrowed := true }
def GroupNamesUptoSaid : Prop := groupNamesUptoRow.holds Try.pinned (OpenSpec.upto groupNamesSpec)

/-- 'braidlaw02.GroupMakes', WHERE WHAT IT READS IS OF BULK AT MOST 1048576: true; the input reads as it did. -/
def groupMakesUptoRow : OpenClaim := { program := "ytlmacnehoddjfaa", sum := "4aee628a961cdc6c9b93b12c342cff806ef186cff0b37c7271bb3af880198e24", func := "braid/braidlaw02.GroupMakes", spec := "groupMakes", unfollowed := true, recurses := true, apart := false, narrowed := true }
def GroupMakesUptoSaid : Prop := groupMakesUptoRow.holds Try.pinned (OpenSpec.upto groupMakesSpec)

/-- 'braidlaw02.GroupExponents', WHERE WHAT IT READS IS OF BULK AT MOST 1048576: true; the input reads as it did. -/
def groupExponentsUptoRow : OpenClaim := { program := "ytlmacnehoddjfaa", sum := "4aee628a961cdc6c9b93b12c342cff806ef186cff0b37c7271bb3af880198e24", func := "braid/braidlaw02.GroupExponents", spec := "groupExponents", unfollowed := true, recurses := true, apart := false, narrowed := true }
def GroupExponentsUptoSaid : Prop := groupExponentsUptoRow.holds Try.pinned (OpenSpec.upto groupExponentsSpec)

/-- 'braidlaw02.GroupPowers', WHERE WHAT IT READS IS OF BULK AT MOST 1048576: true; the input reads as it did. -/
def groupPowersUptoRow : OpenClaim := { program := "ytlmacnehoddjfaa", sum := "4aee628a961cdc6c9b93b12c342cff806ef186cff0b37c7271bb3af880198e24", func := "braid/braidlaw02.GroupPowers", spec := "groupPowers", unfollowed := true, recurses := true, apart := false, narrowed := true }
def GroupPowersUptoSaid : Prop := groupPowersUptoRow.holds Try.pinned (OpenSpec.upto groupPowersSpec)

/-- 'braidlaw02.GroupBack', WHERE WHAT IT READS IS OF BULK AT MOST 1048576: true; the input reads as it did. -/
def groupBackUptoRow : OpenClaim := { program := "ytlmacnehoddjfaa", sum := "4aee628a961cdc6c9b93b12c342cff806ef186cff0b37c7271bb3af880198e24", func := "braid/braidlaw02.GroupBack", spec := "groupBack", unfollowed := true, recurses := true, apart := false, narrowed := true }
def GroupBackUptoSaid : Prop := groupBackUptoRow.holds Try.pinned (OpenSpec.upto groupBackSpec)

/-- 'braidlaw02.GroupRules', WHERE WHAT IT READS IS OF BULK AT MOST 1048576: true; the input reads as it did. -/
def groupRulesUptoRow : OpenClaim := { program := "ytlmacnehoddjfaa", sum := "4aee628a961cdc6c9b93b12c342cff806ef186cff0b37c7271bb3af880198e24", func := "braid/braidlaw02.GroupRules", spec := "groupRules", unfollowed := true, recurses := true, apart := false, narrowed := true }
def GroupRulesUptoSaid : Prop := groupRulesUptoRow.holds Try.pinned (OpenSpec.upto groupRulesSpec)

/-- 'braidlaw02.GroupHalf', WHERE WHAT IT READS IS OF BULK AT MOST 1048576: true; the input reads as it did. -/
def groupHalfUptoRow : OpenClaim := { program := "ytlmacnehoddjfaa", sum := "4aee628a961cdc6c9b93b12c342cff806ef186cff0b37c7271bb3af880198e24", func := "braid/braidlaw02.GroupHalf", spec := "groupHalf", unfollowed := true, recurses := true, apart := false, narrowed := true }
def GroupHalfUptoSaid : Prop := groupHalfUptoRow.holds Try.pinned (OpenSpec.upto groupHalfSpec)

end Rows
end Go.Proofs.Ytlmacnehoddjfaa

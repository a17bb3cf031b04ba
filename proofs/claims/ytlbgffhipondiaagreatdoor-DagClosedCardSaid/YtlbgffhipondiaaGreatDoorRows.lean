/-
  NARROWER THAN 'FOR EVERY INPUT', by the rows' own cells (each row's printed sentence says how): DagNames: laid · DagMakes: laid · DagClosed: laid · DagOrders: laid · DagUnion: laid · AncestryNames: laid · AncestryFinds: laid · AncestryLists: laid · AncestryLeast: laid · AncestryOrder: laid · AncestryHeads: laid · AncestryDeep: laid.
  DERIVED. THE GIVEN ROWS OF THIS SEAT. 12 by the template 'for every input the law returns true; each argument reads behind the call as it read before'; 0 by the template 'total and deterministic' (their statements: YtlbgffhipondiaaGreatDoorTotals.lean).
  GIVEN WITH THE SEED: the statements are not yours to turn. If you find one false, say at which input.
  Laid BY PROGRAM, IN A SANDBOX (cutbox-rows.mjs): the forced cells as the released guide's own fill.sh prints them over the translation 4fc003e5b224c8da… (all of the seat's roots in one cut). By AI agents, Wed Nov 11 2026. No macro, syntax, notation, axiom, sorry.
-/
import Derived.Test.YtlbgffhipondiaaGreatDoorChecked
import GoSem.Claim
import GoSem.ClaimJoined
import GoSem.ClaimMapViews
import Derived.JoinedTies
import Derived.KernelRfl
namespace Go.Proofs.YtlbgffhipondiaaGreatDoor
/- THE CELL 'sum', in the pinned program and in every row, IS THE sha256 OF THE DUMP (.gsa) THAT YtlbgffhipondiaaGreatDoorProg.lean LOADS. Nothing in Lean hashes anything: it is a label: what it is worth is what the hold of that sum in a sandbox is worth. -/
noncomputable def Tryz.pinned : Pinned := { name := "ytlbgffhipondiaagreatdoor", sum := "4fc003e5b224c8da455e220d5fed07900e228b053761d5f5cf16ba8a7922ffd1", checked := Tryz.checked }
namespace Rows
def none {H : Type} : Left H := { results := [], args := [] }

/- WHAT THE LISTED PACKAGE-LEVEL VARIABLES READ AS WHEN THE CALL BEGINS. Each datum BY PROGRAM (the guide's laid-datum.mjs) off the statement by which the dump's own 'gosem.cut.vars' lays the variable. In a bare row this is a premise. The card (YtlbgffhipondiaaGreatDoorCards.lean) ties it to the program's text. -/
def laid_braid_digest_firstWords {H : Type} : DataW H := .agg [.lit (.int .u32 1779033703), .lit (.int .u32 3144134277), .lit (.int .u32 1013904242), .lit (.int .u32 2773480762), .lit (.int .u32 1359893119), .lit (.int .u32 2600822924), .lit (.int .u32 528734635), .lit (.int .u32 1541459225)]
def laid_braid_digest_constants {H : Type} : DataW H := .agg [.lit (.int .u32 1116352408), .lit (.int .u32 1899447441), .lit (.int .u32 3049323471), .lit (.int .u32 3921009573), .lit (.int .u32 961987163), .lit (.int .u32 1508970993), .lit (.int .u32 2453635748), .lit (.int .u32 2870763221), .lit (.int .u32 3624381080), .lit (.int .u32 310598401), .lit (.int .u32 607225278), .lit (.int .u32 1426881987), .lit (.int .u32 1925078388), .lit (.int .u32 2162078206), .lit (.int .u32 2614888103), .lit (.int .u32 3248222580), .lit (.int .u32 3835390401), .lit (.int .u32 4022224774), .lit (.int .u32 264347078), .lit (.int .u32 604807628), .lit (.int .u32 770255983), .lit (.int .u32 1249150122), .lit (.int .u32 1555081692), .lit (.int .u32 1996064986), .lit (.int .u32 2554220882), .lit (.int .u32 2821834349), .lit (.int .u32 2952996808), .lit (.int .u32 3210313671), .lit (.int .u32 3336571891), .lit (.int .u32 3584528711), .lit (.int .u32 113926993), .lit (.int .u32 338241895), .lit (.int .u32 666307205), .lit (.int .u32 773529912), .lit (.int .u32 1294757372), .lit (.int .u32 1396182291), .lit (.int .u32 1695183700), .lit (.int .u32 1986661051), .lit (.int .u32 2177026350), .lit (.int .u32 2456956037), .lit (.int .u32 2730485921), .lit (.int .u32 2820302411), .lit (.int .u32 3259730800), .lit (.int .u32 3345764771), .lit (.int .u32 3516065817), .lit (.int .u32 3600352804), .lit (.int .u32 4094571909), .lit (.int .u32 275423344), .lit (.int .u32 430227734), .lit (.int .u32 506948616), .lit (.int .u32 659060556), .lit (.int .u32 883997877), .lit (.int .u32 958139571), .lit (.int .u32 1322822218), .lit (.int .u32 1537002063), .lit (.int .u32 1747873779), .lit (.int .u32 1955562222), .lit (.int .u32 2024104815), .lit (.int .u32 2227730452), .lit (.int .u32 2361852424), .lit (.int .u32 2428436474), .lit (.int .u32 2756734187), .lit (.int .u32 3204031479), .lit (.int .u32 3329325298)]

/-- 'braidlaw09.DagNames': WHATEVER THE INPUT: true; the input reads as it did. -/
def dagNamesSpec : ChangeSpec := { name := "dagNames", fn := fun _ => fun
  | [] => { results := [.lit (.bool true)], args := [] }
  | _ => none }
def dagNamesRow : OpenClaim := { program := "ytlbgffhipondiaagreatdoor", sum := "4fc003e5b224c8da455e220d5fed07900e228b053761d5f5cf16ba8a7922ffd1", func := "braid/braidlaw09.DagNames", spec := "dagNames", inPlace := ["internal/bytealg.Compare", "slices.overlaps[braid/api.ID]", "slices.overlaps[braid/api.Op]"], unfollowed := true, recurses := true, named := ["braid/digest.firstWords", "braid/digest.constants"], plainKeys := false, apart := false, laid := [("braid/digest.firstWords", laid_braid_digest_firstWords), ("braid/digest.constants", laid_braid_digest_constants)] }
def DagNamesSaid : Prop := dagNamesRow.holds Tryz.pinned (OpenSpec.ofChange dagNamesSpec)

/-- ITS FALSE NEIGHBOUR: 'it returns false'. Refute it at one input. -/
def dagNamesWrong : ChangeSpec := { name := "dagNames", fn := fun _ => fun
  | [] => { results := [.lit (.bool false)], args := [] }
  | _ => none }
def DagNamesWrongFalsely : Prop := dagNamesRow.holds Tryz.pinned (OpenSpec.ofChange dagNamesWrong)

/-- 'braidlaw09.DagMakes': WHATEVER THE INPUT: true; the input reads as it did. -/
def dagMakesSpec : ChangeSpec := { name := "dagMakes", fn := fun _ => fun
  | [d1, d2, d3, d4] => { results := [.lit (.bool true)], args := [d1, d2, d3, d4] }
  | _ => none }
def dagMakesRow : OpenClaim := { program := "ytlbgffhipondiaagreatdoor", sum := "4fc003e5b224c8da455e220d5fed07900e228b053761d5f5cf16ba8a7922ffd1", func := "braid/braidlaw09.DagMakes", spec := "dagMakes", inPlace := ["internal/bytealg.Compare", "slices.overlaps[braid/api.ID]", "slices.overlaps[braid/api.Op]"], unfollowed := true, recurses := true, named := ["braid/digest.firstWords", "braid/digest.constants"], plainKeys := false, apart := false, laid := [("braid/digest.firstWords", laid_braid_digest_firstWords), ("braid/digest.constants", laid_braid_digest_constants)] }
def DagMakesSaid : Prop := dagMakesRow.holds Tryz.pinned (OpenSpec.ofChange dagMakesSpec)

/-- ITS FALSE NEIGHBOUR: 'it returns false'. Refute it at one input. -/
def dagMakesWrong : ChangeSpec := { name := "dagMakes", fn := fun _ => fun
  | [d1, d2, d3, d4] => { results := [.lit (.bool false)], args := [d1, d2, d3, d4] }
  | _ => none }
def DagMakesWrongFalsely : Prop := dagMakesRow.holds Tryz.pinned (OpenSpec.ofChange dagMakesWrong)

/-- 'braidlaw09.DagClosed': WHATEVER THE INPUT: true; the input reads as it did. -/
def dagClosedSpec : ChangeSpec := { name := "dagClosed", fn := fun _ => fun
  | [d1, d2] => { results := [.lit (.bool true)], args := [d1, d2] }
  | _ => none }
def dagClosedRow : OpenClaim := { program := "ytlbgffhipondiaagreatdoor", sum := "4fc003e5b224c8da455e220d5fed07900e228b053761d5f5cf16ba8a7922ffd1", func := "braid/braidlaw09.DagClosed", spec := "dagClosed", inPlace := ["internal/bytealg.Compare", "slices.overlaps[braid/api.ID]", "slices.overlaps[braid/api.Op]"], unfollowed := true, recurses := true, named := ["braid/digest.firstWords", "braid/digest.constants"], plainKeys := false, apart := false, laid := [("braid/digest.firstWords", laid_braid_digest_firstWords), ("braid/digest.constants", laid_braid_digest_constants)] }
def DagClosedSaid : Prop := dagClosedRow.holds Tryz.pinned (OpenSpec.ofChange dagClosedSpec)

/-- ITS FALSE NEIGHBOUR: 'it returns false'. Refute it at one input. -/
def dagClosedWrong : ChangeSpec := { name := "dagClosed", fn := fun _ => fun
  | [d1, d2] => { results := [.lit (.bool false)], args := [d1, d2] }
  | _ => none }
def DagClosedWrongFalsely : Prop := dagClosedRow.holds Tryz.pinned (OpenSpec.ofChange dagClosedWrong)

/-- 'braidlaw09.DagOrders': WHATEVER THE INPUT: true; the input reads as it did. -/
def dagOrdersSpec : ChangeSpec := { name := "dagOrders", fn := fun _ => fun
  | [d1, d2] => { results := [.lit (.bool true)], args := [d1, d2] }
  | _ => none }
def dagOrdersRow : OpenClaim := { program := "ytlbgffhipondiaagreatdoor", sum := "4fc003e5b224c8da455e220d5fed07900e228b053761d5f5cf16ba8a7922ffd1", func := "braid/braidlaw09.DagOrders", spec := "dagOrders", inPlace := ["internal/bytealg.Compare", "slices.overlaps[braid/api.ID]", "slices.overlaps[braid/api.Op]"], unfollowed := true, recurses := true, named := ["braid/digest.firstWords", "braid/digest.constants"], plainKeys := false, apart := false, laid := [("braid/digest.firstWords", laid_braid_digest_firstWords), ("braid/digest.constants", laid_braid_digest_constants)] }
def DagOrdersSaid : Prop := dagOrdersRow.holds Tryz.pinned (OpenSpec.ofChange dagOrdersSpec)

/-- ITS FALSE NEIGHBOUR: 'it returns false'. Refute it at one input. -/
def dagOrdersWrong : ChangeSpec := { name := "dagOrders", fn := fun _ => fun
  | [d1, d2] => { results := [.lit (.bool false)], args := [d1, d2] }
  | _ => none }
def DagOrdersWrongFalsely : Prop := dagOrdersRow.holds Tryz.pinned (OpenSpec.ofChange dagOrdersWrong)

/-- 'braidlaw09.DagUnion': WHATEVER THE INPUT: true; the input reads as it did. -/
def dagUnionSpec : ChangeSpec := { name := "dagUnion", fn := fun _ => fun
  | [d1, d2, d3] => { results := [.lit (.bool true)], args := [d1, d2, d3] }
  | _ => none }
def dagUnionRow : OpenClaim := { program := "ytlbgffhipondiaagreatdoor", sum := "4fc003e5b224c8da455e220d5fed07900e228b053761d5f5cf16ba8a7922ffd1", func := "braid/braidlaw09.DagUnion", spec := "dagUnion", inPlace := ["internal/bytealg.Compare", "slices.overlaps[braid/api.ID]", "slices.overlaps[braid/api.Op]"], unfollowed := true, recurses := true, named := ["braid/digest.firstWords", "braid/digest.constants"], plainKeys := false, apart := false, laid := [("braid/digest.firstWords", laid_braid_digest_firstWords), ("braid/digest.constants", laid_braid_digest_constants)] }
def DagUnionSaid : Prop := dagUnionRow.holds Tryz.pinned (OpenSpec.ofChange dagUnionSpec)

/-- ITS FALSE NEIGHBOUR: 'it returns false'. Refute it at one input. -/
def dagUnionWrong : ChangeSpec := { name := "dagUnion", fn := fun _ => fun
  | [d1, d2, d3] => { results := [.lit (.bool false)], args := [d1, d2, d3] }
  | _ => none }
def DagUnionWrongFalsely : Prop := dagUnionRow.holds Tryz.pinned (OpenSpec.ofChange dagUnionWrong)

/-- 'braidlaw10.AncestryNames': WHATEVER THE INPUT: true; the input reads as it did. -/
def ancestryNamesSpec : ChangeSpec := { name := "ancestryNames", fn := fun _ => fun
  | [] => { results := [.lit (.bool true)], args := [] }
  | _ => none }
def ancestryNamesRow : OpenClaim := { program := "ytlbgffhipondiaagreatdoor", sum := "4fc003e5b224c8da455e220d5fed07900e228b053761d5f5cf16ba8a7922ffd1", func := "braid/braidlaw10.AncestryNames", spec := "ancestryNames", inPlace := ["internal/bytealg.Compare", "slices.overlaps[braid/api.ID]", "slices.overlaps[braid/api.Op]"], unfollowed := true, recurses := true, named := ["braid/digest.firstWords", "braid/digest.constants"], plainKeys := false, apart := false, laid := [("braid/digest.firstWords", laid_braid_digest_firstWords), ("braid/digest.constants", laid_braid_digest_constants)] }
def AncestryNamesSaid : Prop := ancestryNamesRow.holds Tryz.pinned (OpenSpec.ofChange ancestryNamesSpec)

/-- ITS FALSE NEIGHBOUR: 'it returns false'. Refute it at one input. -/
def ancestryNamesWrong : ChangeSpec := { name := "ancestryNames", fn := fun _ => fun
  | [] => { results := [.lit (.bool false)], args := [] }
  | _ => none }
def AncestryNamesWrongFalsely : Prop := ancestryNamesRow.holds Tryz.pinned (OpenSpec.ofChange ancestryNamesWrong)

/-- 'braidlaw10.AncestryFinds': WHATEVER THE INPUT: true; the input reads as it did. -/
def ancestryFindsSpec : ChangeSpec := { name := "ancestryFinds", fn := fun _ => fun
  | [d1, d2, d3] => { results := [.lit (.bool true)], args := [d1, d2, d3] }
  | _ => none }
def ancestryFindsRow : OpenClaim := { program := "ytlbgffhipondiaagreatdoor", sum := "4fc003e5b224c8da455e220d5fed07900e228b053761d5f5cf16ba8a7922ffd1", func := "braid/braidlaw10.AncestryFinds", spec := "ancestryFinds", inPlace := ["internal/bytealg.Compare"], unfollowed := true, recurses := true, named := ["braid/digest.firstWords", "braid/digest.constants"], plainKeys := false, apart := false, laid := [("braid/digest.firstWords", laid_braid_digest_firstWords), ("braid/digest.constants", laid_braid_digest_constants)] }
def AncestryFindsSaid : Prop := ancestryFindsRow.holds Tryz.pinned (OpenSpec.ofChange ancestryFindsSpec)

/-- ITS FALSE NEIGHBOUR: 'it returns false'. Refute it at one input. -/
def ancestryFindsWrong : ChangeSpec := { name := "ancestryFinds", fn := fun _ => fun
  | [d1, d2, d3] => { results := [.lit (.bool false)], args := [d1, d2, d3] }
  | _ => none }
def AncestryFindsWrongFalsely : Prop := ancestryFindsRow.holds Tryz.pinned (OpenSpec.ofChange ancestryFindsWrong)

/-- 'braidlaw10.AncestryLists': WHATEVER THE INPUT: true; the input reads as it did. -/
def ancestryListsSpec : ChangeSpec := { name := "ancestryLists", fn := fun _ => fun
  | [d1, d2] => { results := [.lit (.bool true)], args := [d1, d2] }
  | _ => none }
def ancestryListsRow : OpenClaim := { program := "ytlbgffhipondiaagreatdoor", sum := "4fc003e5b224c8da455e220d5fed07900e228b053761d5f5cf16ba8a7922ffd1", func := "braid/braidlaw10.AncestryLists", spec := "ancestryLists", inPlace := ["internal/bytealg.Compare", "slices.overlaps[braid/api.ID]", "slices.overlaps[braid/api.Op]"], unfollowed := true, recurses := true, named := ["braid/digest.firstWords", "braid/digest.constants"], plainKeys := false, apart := false, laid := [("braid/digest.firstWords", laid_braid_digest_firstWords), ("braid/digest.constants", laid_braid_digest_constants)] }
def AncestryListsSaid : Prop := ancestryListsRow.holds Tryz.pinned (OpenSpec.ofChange ancestryListsSpec)

/-- ITS FALSE NEIGHBOUR: 'it returns false'. Refute it at one input. -/
def ancestryListsWrong : ChangeSpec := { name := "ancestryLists", fn := fun _ => fun
  | [d1, d2] => { results := [.lit (.bool false)], args := [d1, d2] }
  | _ => none }
def AncestryListsWrongFalsely : Prop := ancestryListsRow.holds Tryz.pinned (OpenSpec.ofChange ancestryListsWrong)

/-- 'braidlaw10.AncestryLeast': WHATEVER THE INPUT: true; the input reads as it did. -/
def ancestryLeastSpec : ChangeSpec := { name := "ancestryLeast", fn := fun _ => fun
  | [d1, d2] => { results := [.lit (.bool true)], args := [d1, d2] }
  | _ => none }
def ancestryLeastRow : OpenClaim := { program := "ytlbgffhipondiaagreatdoor", sum := "4fc003e5b224c8da455e220d5fed07900e228b053761d5f5cf16ba8a7922ffd1", func := "braid/braidlaw10.AncestryLeast", spec := "ancestryLeast", inPlace := ["internal/bytealg.Compare", "slices.overlaps[braid/api.ID]", "slices.overlaps[braid/api.Op]"], unfollowed := true, recurses := true, named := ["braid/digest.firstWords", "braid/digest.constants"], plainKeys := false, apart := false, laid := [("braid/digest.firstWords", laid_braid_digest_firstWords), ("braid/digest.constants", laid_braid_digest_constants)] }
def AncestryLeastSaid : Prop := ancestryLeastRow.holds Tryz.pinned (OpenSpec.ofChange ancestryLeastSpec)

/-- ITS FALSE NEIGHBOUR: 'it returns false'. Refute it at one input. -/
def ancestryLeastWrong : ChangeSpec := { name := "ancestryLeast", fn := fun _ => fun
  | [d1, d2] => { results := [.lit (.bool false)], args := [d1, d2] }
  | _ => none }
def AncestryLeastWrongFalsely : Prop := ancestryLeastRow.holds Tryz.pinned (OpenSpec.ofChange ancestryLeastWrong)

/-- 'braidlaw10.AncestryOrder': WHATEVER THE INPUT: true; the input reads as it did. -/
def ancestryOrderSpec : ChangeSpec := { name := "ancestryOrder", fn := fun _ => fun
  | [d1, d2] => { results := [.lit (.bool true)], args := [d1, d2] }
  | _ => none }
def ancestryOrderRow : OpenClaim := { program := "ytlbgffhipondiaagreatdoor", sum := "4fc003e5b224c8da455e220d5fed07900e228b053761d5f5cf16ba8a7922ffd1", func := "braid/braidlaw10.AncestryOrder", spec := "ancestryOrder", inPlace := ["internal/bytealg.Compare", "slices.overlaps[braid/api.ID]", "slices.overlaps[braid/api.Op]"], unfollowed := true, recurses := true, named := ["braid/digest.firstWords", "braid/digest.constants"], plainKeys := false, apart := false, laid := [("braid/digest.firstWords", laid_braid_digest_firstWords), ("braid/digest.constants", laid_braid_digest_constants)] }
def AncestryOrderSaid : Prop := ancestryOrderRow.holds Tryz.pinned (OpenSpec.ofChange ancestryOrderSpec)

/-- ITS FALSE NEIGHBOUR: 'it returns false'. Refute it at one input. -/
def ancestryOrderWrong : ChangeSpec := { name := "ancestryOrder", fn := fun _ => fun
  | [d1, d2] => { results := [.lit (.bool false)], args := [d1, d2] }
  | _ => none }
def AncestryOrderWrongFalsely : Prop := ancestryOrderRow.holds Tryz.pinned (OpenSpec.ofChange ancestryOrderWrong)

/-- 'braidlaw10.AncestryHeads': WHATEVER THE INPUT: true; the input reads as it did. -/
def ancestryHeadsSpec : ChangeSpec := { name := "ancestryHeads", fn := fun _ => fun
  | [d] => { results := [.lit (.bool true)], args := [d] }
  | _ => none }
def ancestryHeadsRow : OpenClaim := { program := "ytlbgffhipondiaagreatdoor", sum := "4fc003e5b224c8da455e220d5fed07900e228b053761d5f5cf16ba8a7922ffd1", func := "braid/braidlaw10.AncestryHeads", spec := "ancestryHeads", inPlace := ["internal/bytealg.Compare", "slices.overlaps[braid/api.ID]", "slices.overlaps[braid/api.Op]"], unfollowed := true, recurses := true, named := ["braid/digest.firstWords", "braid/digest.constants"], plainKeys := false, apart := false, laid := [("braid/digest.firstWords", laid_braid_digest_firstWords), ("braid/digest.constants", laid_braid_digest_constants)] }
def AncestryHeadsSaid : Prop := ancestryHeadsRow.holds Tryz.pinned (OpenSpec.ofChange ancestryHeadsSpec)

/-- ITS FALSE NEIGHBOUR: 'it returns false'. Refute it at one input. -/
def ancestryHeadsWrong : ChangeSpec := { name := "ancestryHeads", fn := fun _ => fun
  | [d] => { results := [.lit (.bool false)], args := [d] }
  | _ => none }
def AncestryHeadsWrongFalsely : Prop := ancestryHeadsRow.holds Tryz.pinned (OpenSpec.ofChange ancestryHeadsWrong)

/-- 'braidlaw10.AncestryDeep': WHATEVER THE INPUT: true; the input reads as it did. -/
def ancestryDeepSpec : ChangeSpec := { name := "ancestryDeep", fn := fun _ => fun
  | [d1, d2, d3] => { results := [.lit (.bool true)], args := [d1, d2, d3] }
  | _ => none }
def ancestryDeepRow : OpenClaim := { program := "ytlbgffhipondiaagreatdoor", sum := "4fc003e5b224c8da455e220d5fed07900e228b053761d5f5cf16ba8a7922ffd1", func := "braid/braidlaw10.AncestryDeep", spec := "ancestryDeep", inPlace := ["internal/bytealg.Compare", "slices.overlaps[braid/api.ID]", "slices.overlaps[braid/api.Op]"], unfollowed := true, recurses := true, named := ["braid/digest.firstWords", "braid/digest.constants"], plainKeys := false, apart := false, laid := [("braid/digest.firstWords", laid_braid_digest_firstWords), ("braid/digest.constants", laid_braid_digest_constants)] }
def AncestryDeepSaid : Prop := ancestryDeepRow.holds Tryz.pinned (OpenSpec.ofChange ancestryDeepSpec)

/-- ITS FALSE NEIGHBOUR: 'it returns false'. Refute it at one input. -/
def ancestryDeepWrong : ChangeSpec := { name := "ancestryDeep", fn := fun _ => fun
  | [d1, d2, d3] => { results := [.lit (.bool false)], args := [d1, d2, d3] }
  | _ => none }
def AncestryDeepWrongFalsely : Prop := ancestryDeepRow.holds Tryz.pinned (OpenSpec.ofChange ancestryDeepWrong)

/- THE SECOND FORM. 'bulk': how many values and letters a reading holds, each counted each time it is reached (what is shared counts as often as it is met; a slice's spare places count too). A statement '..UptoSaid' is the law's where the arguments, and the package variables that the reading takes, are together of bulk at most 1048576: NARROWER than '..Said'. Prove '..Said' where nothing that the law and all that it calls make is longer than what came in: it says more and counts as full. Else prove '..UptoSaid'. A law counts once. -/
mutual
def uptoBulk {H : Type} : DataW H → Nat
  | .lit (.string bytes) => bytes.length + 1
  | .lit _ => 1
  | .nil => 1
  | .ptr d => uptoBulk d + 1
  | .slice elems spare => uptoBulkAll elems + uptoBulkAll spare + 1
  | .agg parts => uptoBulkAll parts + 1
  | .iface _ d => uptoBulk d + 1
  | .map entries => uptoBulkEntries entries + 1
  | .held _ => 1
def uptoBulkAll {H : Type} : List (DataW H) → Nat
  | [] => 0
  | d :: r => uptoBulk d + uptoBulkAll r
def uptoBulkEntries {H : Type} : List (Lit × DataW H) → Nat
  | [] => 0
  | x :: r => uptoBulkEntry x + uptoBulkEntries r
def uptoBulkEntry {H : Type} : Lit × DataW H → Nat
  | (.string bytes, d) => bytes.length + uptoBulk d + 1
  | (_, d) => uptoBulk d + 1
 end
def uptoSmall : (H : Type) → List (DataW H) → Bool := fun _ ds => decide (uptoBulkAll ds ≤ 1048576)
def OpenSpec.upto (s : _root_.Go.ChangeSpec) : _root_.Go.OpenSpec := { _root_.Go.OpenSpec.ofChange s with cond := some uptoSmall }

/-- 'braidlaw09.DagNames', WHERE WHAT IT READS IS OF BULK AT MOST 1048576: true; the input reads as it did. -/
def dagNamesUptoRow : OpenClaim := { program := "ytlbgffhipondiaagreatdoor", sum := "4fc003e5b224c8da455e220d5fed07900e228b053761d5f5cf16ba8a7922ffd1", func := "braid/braidlaw09.DagNames", spec := "dagNames", inPlace := ["internal/bytealg.Compare", "slices.overlaps[braid/api.ID]", "slices.overlaps[braid/api.Op]"], unfollowed := true, recurses := true, named := ["braid/digest.firstWords", "braid/digest.constants"], plainKeys := false, apart := false, laid := [("braid/digest.firstWords", laid_braid_digest_firstWords), ("braid/digest.constants", laid_braid_digest_constants)], narrowed := true }
def DagNamesUptoSaid : Prop := dagNamesUptoRow.holds Tryz.pinned (OpenSpec.upto dagNamesSpec)

/-- 'braidlaw09.DagMakes', WHERE WHAT IT READS IS OF BULK AT MOST 1048576: true; the input reads as it did. -/
def dagMakesUptoRow : OpenClaim := { program := "ytlbgffhipondiaagreatdoor", sum := "4fc003e5b224c8da455e220d5fed07900e228b053761d5f5cf16ba8a7922ffd1", func := "braid/braidlaw09.DagMakes", spec := "dagMakes", inPlace := ["internal/bytealg.Compare", "slices.overlaps[braid/api.ID]", "slices.overlaps[braid/api.Op]"], unfollowed := true, recurses := true, named := ["braid/digest.firstWords", "braid/digest.constants"], plainKeys := false, apart := false, laid := [("braid/digest.firstWords", laid_braid_digest_firstWords), ("braid/digest.constants", laid_braid_digest_constants)], narrowed := true }
def DagMakesUptoSaid : Prop := dagMakesUptoRow.holds Tryz.pinned (OpenSpec.upto dagMakesSpec)

/-- 'braidlaw09.DagClosed', WHERE WHAT IT READS IS OF BULK AT MOST 1048576: true; the input reads as it did. -/
def dagClosedUptoRow : OpenClaim := { program := "ytlbgffhipondiaagreatdoor", sum := "4fc003e5b224c8da455e220d5fed07900e228b053761d5f5cf16ba8a7922ffd1", func := "braid/braidlaw09.DagClosed", spec := "dagClosed", inPlace := ["internal/bytealg.Compare", "slices.overlaps[braid/api.ID]", "slices.overlaps[braid/api.Op]"], unfollowed := true, recurses := true, named := ["braid/digest.firstWords", "braid/digest.constants"], plainKeys := false, apart := false, laid := [("braid/digest.firstWords", laid_braid_digest_firstWords), ("braid/digest.constants", laid_braid_digest_constants)], narrowed := true }
def DagClosedUptoSaid : Prop := dagClosedUptoRow.holds Tryz.pinned (OpenSpec.upto dagClosedSpec)

/-- 'braidlaw09.DagOrders', WHERE WHAT IT READS IS OF BULK AT MOST 1048576: true; the input reads as it did. -/
def dagOrdersUptoRow : OpenClaim := { program := "ytlbgffhipondiaagreatdoor", sum := "4fc003e5b224c8da455e220d5fed07900e228b053761d5f5cf16ba8a7922ffd1", func := "braid/braidlaw09.DagOrders", spec := "dagOrders", inPlace := ["internal/bytealg.Compare", "slices.overlaps[braid/api.ID]", "slices.overlaps[braid/api.Op]"], unfollowed := true, recurses := true, named := ["braid/digest.firstWords", "braid/digest.constants"], plainKeys := false, apart := false, laid := [("braid/digest.firstWords", laid_braid_digest_firstWords), ("braid/digest.constants", laid_braid_digest_constants)], narrowed := true }
def DagOrdersUptoSaid : Prop := dagOrdersUptoRow.holds Tryz.pinned (OpenSpec.upto dagOrdersSpec)

/-- 'braidlaw09.DagUnion', WHERE WHAT IT READS IS OF BULK AT MOST 1048576: true; the input reads as it did. -/
def dagUnionUptoRow : OpenClaim := { program := "ytlbgffhipondiaagreatdoor", sum := "4fc003e5b224c8da455e220d5fed07900e228b053761d5f5cf16ba8a7922ffd1", func := "braid/braidlaw09.DagUnion", spec := "dagUnion", inPlace := ["internal/bytealg.Compare", "slices.overlaps[braid/api.ID]", "slices.overlaps[braid/api.Op]"], unfollowed := true, recurses := true, named := ["braid/digest.firstWords", "braid/digest.constants"], plainKeys := false, apart := false, laid := [("braid/digest.firstWords", laid_braid_digest_firstWords), ("braid/digest.constants", laid_braid_digest_constants)], narrowed := true }
def DagUnionUptoSaid : Prop := dagUnionUptoRow.holds Tryz.pinned (OpenSpec.upto dagUnionSpec)

/-- 'braidlaw10.AncestryNames', WHERE WHAT IT READS IS OF BULK AT MOST 1048576: true; the input reads as it did. -/
def ancestryNamesUptoRow : OpenClaim := { program := "ytlbgffhipondiaagreatdoor", sum := "4fc003e5b224c8da455e220d5fed07900e228b053761d5f5cf16ba8a7922ffd1", func := "braid/braidlaw10.AncestryNames", spec := "ancestryNames", inPlace := ["internal/bytealg.Compare", "slices.overlaps[braid/api.ID]", "slices.overlaps[braid/api.Op]"], unfollowed := true, recurses := true, named := ["braid/digest.firstWords", "braid/digest.constants"], plainKeys := false, apart := false, laid := [("braid/digest.firstWords", laid_braid_digest_firstWords), ("braid/digest.constants", laid_braid_digest_constants)], narrowed := true }
def AncestryNamesUptoSaid : Prop := ancestryNamesUptoRow.holds Tryz.pinned (OpenSpec.upto ancestryNamesSpec)

/-- 'braidlaw10.AncestryFinds', WHERE WHAT IT READS IS OF BULK AT MOST 1048576: true; the input reads as it did. -/
def ancestryFindsUptoRow : OpenClaim := { program := "ytlbgffhipondiaagreatdoor", sum := "4fc003e5b224c8da455e220d5fed07900e228b053761d5f5cf16ba8a7922ffd1", func := "braid/braidlaw10.AncestryFinds", spec := "ancestryFinds", inPlace := ["internal/bytealg.Compare"], unfollowed := true, recurses := true, named := ["braid/digest.firstWords", "braid/digest.constants"], plainKeys := false, apart := false, laid := [("braid/digest.firstWords", laid_braid_digest_firstWords), ("braid/digest.constants", laid_braid_digest_constants)], narrowed := true }
def AncestryFindsUptoSaid : Prop := ancestryFindsUptoRow.holds Tryz.pinned (OpenSpec.upto ancestryFindsSpec)

/-- 'braidlaw10.AncestryLists', WHERE WHAT IT READS IS OF BULK AT MOST 1048576: true; the input reads as it did. -/
def ancestryListsUptoRow : OpenClaim := { program := "ytlbgffhipondiaagreatdoor", sum := "4fc003e5b224c8da455e220d5fed07900e228b053761d5f5cf16ba8a7922ffd1", func := "braid/braidlaw10.AncestryLists", spec := "ancestryLists", inPlace := ["internal/bytealg.Compare", "slices.overlaps[braid/api.ID]", "slices.overlaps[braid/api.Op]"], unfollowed := true, recurses := true, named := ["braid/digest.firstWords", "braid/digest.constants"], plainKeys := false, apart := false, laid := [("braid/digest.firstWords", laid_braid_digest_firstWords), ("braid/digest.constants", laid_braid_digest_constants)], narrowed := true }
def AncestryListsUptoSaid : Prop := ancestryListsUptoRow.holds Tryz.pinned (OpenSpec.upto ancestryListsSpec)

/-- 'braidlaw10.AncestryLeast', WHERE WHAT IT READS IS OF BULK AT MOST 1048576: true; the input reads as it did. -/
def ancestryLeastUptoRow : OpenClaim := { program := "ytlbgffhipondiaagreatdoor", sum := "4fc003e5b224c8da455e220d5fed07900e228b053761d5f5cf16ba8a7922ffd1", func := "braid/braidlaw10.AncestryLeast", spec := "ancestryLeast", inPlace := ["internal/bytealg.Compare", "slices.overlaps[braid/api.ID]", "slices.overlaps[braid/api.Op]"], unfollowed := true, recurses := true, named := ["braid/digest.firstWords", "braid/digest.constants"], plainKeys := false, apart := false, laid := [("braid/digest.firstWords", laid_braid_digest_firstWords), ("braid/digest.constants", laid_braid_digest_constants)], narrowed := true }
def AncestryLeastUptoSaid : Prop := ancestryLeastUptoRow.holds Tryz.pinned (OpenSpec.upto ancestryLeastSpec)

/-- 'braidlaw10.AncestryOrder', WHERE WHAT IT READS IS OF BULK AT MOST 1048576: true; the input reads as it did. -/
def ancestryOrderUptoRow : OpenClaim := { program := "ytlbgffhipondiaagreatdoor", sum := "4fc003e5b224c8da455e220d5fed07900e228b053761d5f5cf16ba8a7922ffd1", func := "braid/braidlaw10.AncestryOrder", spec := "ancestryOrder", inPlace := ["internal/bytealg.Compare", "slices.overlaps[braid/api.ID]", "slices.overlaps[braid/api.Op]"], unfollowed := true, recurses := true, named := ["braid/digest.firstWords", "braid/digest.constants"], plainKeys := false, apart := false, laid := [("braid/digest.firstWords", laid_braid_digest_firstWords), ("braid/digest.constants", laid_braid_digest_constants)], narrowed := true }
def AncestryOrderUptoSaid : Prop := ancestryOrderUptoRow.holds Tryz.pinned (OpenSpec.upto ancestryOrderSpec)

/-- 'braidlaw10.AncestryHeads', WHERE WHAT IT READS IS OF BULK AT MOST 1048576: true; the input reads as it did. -/
def ancestryHeadsUptoRow : OpenClaim := { program := "ytlbgffhipondiaagreatdoor", sum := "4fc003e5b224c8da455e220d5fed07900e228b053761d5f5cf16ba8a7922ffd1", func := "braid/braidlaw10.AncestryHeads", spec := "ancestryHeads", inPlace := ["internal/bytealg.Compare", "slices.overlaps[braid/api.ID]", "slices.overlaps[braid/api.Op]"], unfollowed := true, recurses := true, named := ["braid/digest.firstWords", "braid/digest.constants"], plainKeys := false, apart := false, laid := [("braid/digest.firstWords", laid_braid_digest_firstWords), ("braid/digest.constants", laid_braid_digest_constants)], narrowed := true }
def AncestryHeadsUptoSaid : Prop := ancestryHeadsUptoRow.holds Tryz.pinned (OpenSpec.upto ancestryHeadsSpec)

/-- 'braidlaw10.AncestryDeep', WHERE WHAT IT READS IS OF BULK AT MOST 1048576: true; the input reads as it did. -/
def ancestryDeepUptoRow : OpenClaim := { program := "ytlbgffhipondiaagreatdoor", sum := "4fc003e5b224c8da455e220d5fed07900e228b053761d5f5cf16ba8a7922ffd1", func := "braid/braidlaw10.AncestryDeep", spec := "ancestryDeep", inPlace := ["internal/bytealg.Compare", "slices.overlaps[braid/api.ID]", "slices.overlaps[braid/api.Op]"], unfollowed := true, recurses := true, named := ["braid/digest.firstWords", "braid/digest.constants"], plainKeys := false, apart := false, laid := [("braid/digest.firstWords", laid_braid_digest_firstWords), ("braid/digest.constants", laid_braid_digest_constants)], narrowed := true }
def AncestryDeepUptoSaid : Prop := ancestryDeepUptoRow.holds Tryz.pinned (OpenSpec.upto ancestryDeepSpec)

end Rows
end Go.Proofs.YtlbgffhipondiaaGreatDoor

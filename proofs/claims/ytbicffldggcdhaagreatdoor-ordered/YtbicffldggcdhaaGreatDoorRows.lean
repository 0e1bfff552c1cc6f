/-
  NARROWER THAN 'FOR EVERY INPUT', by the rows' own cells (each row's printed sentence says how): Trees: laid · Clones: laid · Parties: laid · Rooted: laid · Breaks: laid · Ordered: laid · Answered: laid · Converged: laid · Seen: laid · Quiet: laid.
  DERIVED. THE GIVEN ROWS OF THIS SEAT. 10 by the template 'for every input the law returns true; each argument reads behind the call as it read before'; 0 by the template 'total and deterministic' (their statements: YtbicffldggcdhaaGreatDoorTotals.lean).
  GIVEN WITH THE SEED: the statements are not yours to turn. If you find one false, say at which input.
  Laid BY PROGRAM, IN A SANDBOX (cutbox-rows.mjs): the forced cells as the released guide's own fill.sh prints them over the translation 8a71e3114628be2e… (all of the seat's roots in one cut). By AI agents, Wed Nov 11 2026. No macro, syntax, notation, axiom, sorry.
-/
import Derived.Test.YtbicffldggcdhaaGreatDoorChecked
import GoSem.Claim
import GoSem.ClaimJoined
import GoSem.ClaimMapViews
import Derived.JoinedTies
import Derived.KernelRfl
namespace Go.Proofs.YtbicffldggcdhaaGreatDoor
/- THE CELL 'sum', in the pinned program and in every row, IS THE sha256 OF THE DUMP (.gsa) THAT YtbicffldggcdhaaGreatDoorProg.lean LOADS. Nothing in Lean hashes anything: it is a label: what it is worth is what the hold of that sum in a sandbox is worth. -/
noncomputable def Tryz.pinned : Pinned := { name := "ytbicffldggcdhaagreatdoor", sum := "8a71e3114628be2ec6b7165c96d9e61004afece57e6b4a401135f253045b4e88", checked := Tryz.checked }
namespace Rows
def none {H : Type} : Left H := { results := [], args := [] }

/- WHAT THE LISTED PACKAGE-LEVEL VARIABLES READ AS WHEN THE CALL BEGINS. Each datum BY PROGRAM (the guide's laid-datum.mjs) off the statement by which the dump's own 'gosem.cut.vars' lays the variable. In a bare row this is a premise. The card (YtbicffldggcdhaaGreatDoorCards.lean) ties it to the program's text. -/
def laid_orchard_api_ErrArg {H : Type} : DataW H := .iface "*errors.errorString" (.ptr (.agg [.lit (.string [115, 111, 109, 101, 116, 104, 105, 110, 103, 32, 116, 104, 97, 116, 32, 105, 115, 32, 104, 97, 110, 100, 101, 100, 32, 105, 110, 32, 97, 110, 100, 32, 109, 97, 121, 32, 110, 111, 116, 32, 98, 101])]))
def laid_orchard_api_ErrRoot {H : Type} : DataW H := .iface "*errors.errorString" (.ptr (.agg [.lit (.string [116, 104, 101, 32, 114, 111, 111, 116, 32, 115, 116, 97, 121, 115, 32, 97, 115, 32, 105, 116, 32, 105, 115])]))
def laid_orchard_api_ErrNode {H : Type} : DataW H := .iface "*errors.errorString" (.ptr (.agg [.lit (.string [110, 111, 32, 115, 117, 99, 104, 32, 110, 111, 100, 101])]))
def laid_orchard_api_ErrExists {H : Type} : DataW H := .iface "*errors.errorString" (.ptr (.agg [.lit (.string [116, 104, 101, 32, 110, 111, 100, 101, 32, 105, 115, 32, 116, 104, 101, 114, 101, 32, 97, 108, 114, 101, 97, 100, 121])]))
def laid_orchard_api_ErrFull {H : Type} : DataW H := .iface "*errors.errorString" (.ptr (.agg [.lit (.string [116, 104, 101, 114, 101, 32, 97, 114, 101, 32, 97, 115, 32, 109, 97, 110, 121, 32, 110, 111, 100, 101, 115, 32, 97, 115, 32, 116, 104, 101, 114, 101, 32, 109, 97, 121, 32, 98, 101])]))
def laid_orchard_api_ErrCycle {H : Type} : DataW H := .iface "*errors.errorString" (.ptr (.agg [.lit (.string [97, 32, 110, 111, 100, 101, 32, 119, 111, 117, 108, 100, 32, 108, 105, 101, 32, 98, 101, 108, 111, 119, 32, 105, 116, 115, 101, 108, 102])]))
def laid_orchard_api_ErrQueue {H : Type} : DataW H := .iface "*errors.errorString" (.ptr (.agg [.lit (.string [116, 111, 111, 32, 109, 97, 110, 121, 32, 101, 100, 105, 116, 115, 32, 119, 97, 105, 116, 32, 102, 111, 114, 32, 97, 110, 32, 97, 110, 115, 119, 101, 114])]))
def laid_orchard_api_ErrJoined {H : Type} : DataW H := .iface "*errors.errorString" (.ptr (.agg [.lit (.string [116, 104, 101, 32, 99, 108, 105, 101, 110, 116, 32, 105, 115, 32, 116, 104, 101, 114, 101, 32, 97, 108, 114, 101, 97, 100, 121, 44, 32, 111, 114, 32, 105, 115, 32, 110, 111, 116, 32, 116, 104, 101, 114, 101])]))
def laid_orchard_api_ErrNone {H : Type} : DataW H := .iface "*errors.errorString" (.ptr (.agg [.lit (.string [116, 104, 101, 114, 101, 32, 105, 115, 32, 110, 111, 116, 104, 105, 110, 103, 32, 111, 110, 32, 105, 116, 115, 32, 119, 97, 121])]))

/-- 'orchardlaw.Trees': WHATEVER THE INPUT: true; the input reads as it did. -/
def treesSpec : ChangeSpec := { name := "trees", fn := fun _ => fun
  | [d] => { results := [.lit (.bool true)], args := [d] }
  | _ => none }
def treesRow : OpenClaim := { program := "ytbicffldggcdhaagreatdoor", sum := "8a71e3114628be2ec6b7165c96d9e61004afece57e6b4a401135f253045b4e88", func := "orchard/orchardlaw.Trees", spec := "trees", inPlace := ["maps.clone", "internal/reflectlite.TypeOf"], unfollowed := true, recurses := true, named := ["orchard/api.ErrArg", "orchard/api.ErrExists", "orchard/api.ErrNode", "orchard/api.ErrFull", "orchard/api.ErrRoot", "orchard/api.ErrCycle", "orchard/api.ErrQueue", "orchard/api.ErrJoined", "orchard/api.ErrNone"], plainKeys := false, apart := false, laid := [("orchard/api.ErrArg", laid_orchard_api_ErrArg), ("orchard/api.ErrRoot", laid_orchard_api_ErrRoot), ("orchard/api.ErrNode", laid_orchard_api_ErrNode), ("orchard/api.ErrExists", laid_orchard_api_ErrExists), ("orchard/api.ErrFull", laid_orchard_api_ErrFull), ("orchard/api.ErrCycle", laid_orchard_api_ErrCycle), ("orchard/api.ErrQueue", laid_orchard_api_ErrQueue), ("orchard/api.ErrJoined", laid_orchard_api_ErrJoined), ("orchard/api.ErrNone", laid_orchard_api_ErrNone)] }
def TreesSaid : Prop := treesRow.holds Tryz.pinned (OpenSpec.ofChange treesSpec)

/-- ITS FALSE NEIGHBOUR: 'it returns false'. Refute it at one input. -/
def treesWrong : ChangeSpec := { name := "trees", fn := fun _ => fun
  | [d] => { results := [.lit (.bool false)], args := [d] }
  | _ => none }
def TreesWrongFalsely : Prop := treesRow.holds Tryz.pinned (OpenSpec.ofChange treesWrong)

/-- 'orchardlaw.Clones': WHATEVER THE INPUT: true; the input reads as it did. -/
def clonesSpec : ChangeSpec := { name := "clones", fn := fun _ => fun
  | [d] => { results := [.lit (.bool true)], args := [d] }
  | _ => none }
def clonesRow : OpenClaim := { program := "ytbicffldggcdhaagreatdoor", sum := "8a71e3114628be2ec6b7165c96d9e61004afece57e6b4a401135f253045b4e88", func := "orchard/orchardlaw.Clones", spec := "clones", inPlace := ["maps.clone", "internal/reflectlite.TypeOf"], unfollowed := true, recurses := true, named := ["orchard/api.ErrArg", "orchard/api.ErrExists", "orchard/api.ErrNode", "orchard/api.ErrFull", "orchard/api.ErrRoot", "orchard/api.ErrCycle", "orchard/api.ErrQueue", "orchard/api.ErrJoined", "orchard/api.ErrNone"], plainKeys := false, apart := false, laid := [("orchard/api.ErrArg", laid_orchard_api_ErrArg), ("orchard/api.ErrRoot", laid_orchard_api_ErrRoot), ("orchard/api.ErrNode", laid_orchard_api_ErrNode), ("orchard/api.ErrExists", laid_orchard_api_ErrExists), ("orchard/api.ErrFull", laid_orchard_api_ErrFull), ("orchard/api.ErrCycle", laid_orchard_api_ErrCycle), ("orchard/api.ErrQueue", laid_orchard_api_ErrQueue), ("orchard/api.ErrJoined", laid_orchard_api_ErrJoined), ("orchard/api.ErrNone", laid_orchard_api_ErrNone)] }
def ClonesSaid : Prop := clonesRow.holds Tryz.pinned (OpenSpec.ofChange clonesSpec)

/-- ITS FALSE NEIGHBOUR: 'it returns false'. Refute it at one input. -/
def clonesWrong : ChangeSpec := { name := "clones", fn := fun _ => fun
  | [d] => { results := [.lit (.bool false)], args := [d] }
  | _ => none }
def ClonesWrongFalsely : Prop := clonesRow.holds Tryz.pinned (OpenSpec.ofChange clonesWrong)

/-- 'orchardlaw.Parties': WHATEVER THE INPUT: true; the input reads as it did. -/
def partiesSpec : ChangeSpec := { name := "parties", fn := fun _ => fun
  | [d] => { results := [.lit (.bool true)], args := [d] }
  | _ => none }
def partiesRow : OpenClaim := { program := "ytbicffldggcdhaagreatdoor", sum := "8a71e3114628be2ec6b7165c96d9e61004afece57e6b4a401135f253045b4e88", func := "orchard/orchardlaw.Parties", spec := "parties", inPlace := ["maps.clone", "internal/reflectlite.TypeOf"], unfollowed := true, recurses := true, named := ["orchard/api.ErrArg", "orchard/api.ErrExists", "orchard/api.ErrNode", "orchard/api.ErrFull", "orchard/api.ErrRoot", "orchard/api.ErrCycle", "orchard/api.ErrQueue", "orchard/api.ErrJoined", "orchard/api.ErrNone"], plainKeys := false, apart := false, laid := [("orchard/api.ErrArg", laid_orchard_api_ErrArg), ("orchard/api.ErrRoot", laid_orchard_api_ErrRoot), ("orchard/api.ErrNode", laid_orchard_api_ErrNode), ("orchard/api.ErrExists", laid_orchard_api_ErrExists), ("orchard/api.ErrFull", laid_orchard_api_ErrFull), ("orchard/api.ErrCycle", laid_orchard_api_ErrCycle), ("orchard/api.ErrQueue", laid_orchard_api_ErrQueue), ("orchard/api.ErrJoined", laid_orchard_api_ErrJoined), ("orchard/api.ErrNone", laid_orchard_api_ErrNone)] }
def PartiesSaid : Prop := partiesRow.holds Tryz.pinned (OpenSpec.ofChange partiesSpec)

/-- ITS FALSE NEIGHBOUR: 'it returns false'. Refute it at one input. -/
def partiesWrong : ChangeSpec := { name := "parties", fn := fun _ => fun
  | [d] => { results := [.lit (.bool false)], args := [d] }
  | _ => none }
def PartiesWrongFalsely : Prop := partiesRow.holds Tryz.pinned (OpenSpec.ofChange partiesWrong)

/-- 'orchardkeep.Rooted': WHATEVER THE INPUT: true; the input reads as it did. -/
def rootedSpec : ChangeSpec := { name := "rooted", fn := fun _ => fun
  | [d] => { results := [.lit (.bool true)], args := [d] }
  | _ => none }
def rootedRow : OpenClaim := { program := "ytbicffldggcdhaagreatdoor", sum := "8a71e3114628be2ec6b7165c96d9e61004afece57e6b4a401135f253045b4e88", func := "orchard/orchardkeep.Rooted", spec := "rooted", inPlace := ["internal/reflectlite.TypeOf", "maps.clone"], unfollowed := true, recurses := true, named := ["orchard/api.ErrArg", "orchard/api.ErrExists", "orchard/api.ErrNode", "orchard/api.ErrFull", "orchard/api.ErrRoot", "orchard/api.ErrCycle", "orchard/api.ErrQueue", "orchard/api.ErrJoined", "orchard/api.ErrNone"], plainKeys := false, apart := false, laid := [("orchard/api.ErrArg", laid_orchard_api_ErrArg), ("orchard/api.ErrRoot", laid_orchard_api_ErrRoot), ("orchard/api.ErrNode", laid_orchard_api_ErrNode), ("orchard/api.ErrExists", laid_orchard_api_ErrExists), ("orchard/api.ErrFull", laid_orchard_api_ErrFull), ("orchard/api.ErrCycle", laid_orchard_api_ErrCycle), ("orchard/api.ErrQueue", laid_orchard_api_ErrQueue), ("orchard/api.ErrJoined", laid_orchard_api_ErrJoined), ("orchard/api.ErrNone", laid_orchard_api_ErrNone)] }
def RootedSaid : Prop := rootedRow.holds Tryz.pinned (OpenSpec.ofChange rootedSpec)

/-- ITS FALSE NEIGHBOUR: 'it returns false'. Refute it at one input. -/
def rootedWrong : ChangeSpec := { name := "rooted", fn := fun _ => fun
  | [d] => { results := [.lit (.bool false)], args := [d] }
  | _ => none }
def RootedWrongFalsely : Prop := rootedRow.holds Tryz.pinned (OpenSpec.ofChange rootedWrong)

/-- 'orchardlaw.Breaks': WHATEVER THE INPUT: true; the input reads as it did. -/
def breaksSpec : ChangeSpec := { name := "breaks", fn := fun _ => fun
  | [d] => { results := [.lit (.bool true)], args := [d] }
  | _ => none }
def breaksRow : OpenClaim := { program := "ytbicffldggcdhaagreatdoor", sum := "8a71e3114628be2ec6b7165c96d9e61004afece57e6b4a401135f253045b4e88", func := "orchard/orchardlaw.Breaks", spec := "breaks", inPlace := ["maps.clone", "internal/reflectlite.TypeOf"], unfollowed := true, recurses := true, named := ["orchard/api.ErrArg", "orchard/api.ErrExists", "orchard/api.ErrNode", "orchard/api.ErrFull", "orchard/api.ErrRoot", "orchard/api.ErrCycle", "orchard/api.ErrQueue", "orchard/api.ErrJoined", "orchard/api.ErrNone"], plainKeys := false, apart := false, laid := [("orchard/api.ErrArg", laid_orchard_api_ErrArg), ("orchard/api.ErrRoot", laid_orchard_api_ErrRoot), ("orchard/api.ErrNode", laid_orchard_api_ErrNode), ("orchard/api.ErrExists", laid_orchard_api_ErrExists), ("orchard/api.ErrFull", laid_orchard_api_ErrFull), ("orchard/api.ErrCycle", laid_orchard_api_ErrCycle), ("orchard/api.ErrQueue", laid_orchard_api_ErrQueue), ("orchard/api.ErrJoined", laid_orchard_api_ErrJoined), ("orchard/api.ErrNone", laid_orchard_api_ErrNone)] }
def BreaksSaid : Prop := breaksRow.holds Tryz.pinned (OpenSpec.ofChange breaksSpec)

/-- ITS FALSE NEIGHBOUR: 'it returns false'. Refute it at one input. -/
def breaksWrong : ChangeSpec := { name := "breaks", fn := fun _ => fun
  | [d] => { results := [.lit (.bool false)], args := [d] }
  | _ => none }
def BreaksWrongFalsely : Prop := breaksRow.holds Tryz.pinned (OpenSpec.ofChange breaksWrong)

/-- 'orchardkeep.Ordered': WHATEVER THE INPUT: true; the input reads as it did. -/
def orderedSpec : ChangeSpec := { name := "ordered", fn := fun _ => fun
  | [d1, d2, d3] => { results := [.lit (.bool true)], args := [d1, d2, d3] }
  | _ => none }
def orderedRow : OpenClaim := { program := "ytbicffldggcdhaagreatdoor", sum := "8a71e3114628be2ec6b7165c96d9e61004afece57e6b4a401135f253045b4e88", func := "orchard/orchardkeep.Ordered", spec := "ordered", inPlace := ["internal/reflectlite.TypeOf", "maps.clone"], unfollowed := true, recurses := true, named := ["orchard/api.ErrArg", "orchard/api.ErrExists", "orchard/api.ErrNode", "orchard/api.ErrFull", "orchard/api.ErrRoot", "orchard/api.ErrCycle", "orchard/api.ErrQueue", "orchard/api.ErrJoined", "orchard/api.ErrNone"], plainKeys := false, apart := false, laid := [("orchard/api.ErrArg", laid_orchard_api_ErrArg), ("orchard/api.ErrRoot", laid_orchard_api_ErrRoot), ("orchard/api.ErrNode", laid_orchard_api_ErrNode), ("orchard/api.ErrExists", laid_orchard_api_ErrExists), ("orchard/api.ErrFull", laid_orchard_api_ErrFull), ("orchard/api.ErrCycle", laid_orchard_api_ErrCycle), ("orchard/api.ErrQueue", laid_orchard_api_ErrQueue), ("orchard/api.ErrJoined", laid_orchard_api_ErrJoined), ("orchard/api.ErrNone", laid_orchard_api_ErrNone)] }
def OrderedSaid : Prop := orderedRow.holds Tryz.pinned (OpenSpec.ofChange orderedSpec)

/-- ITS FALSE NEIGHBOUR: 'it returns false'. Refute it at one input. -/
def orderedWrong : ChangeSpec := { name := "ordered", fn := fun _ => fun
  | [d1, d2, d3] => { results := [.lit (.bool false)], args := [d1, d2, d3] }
  | _ => none }
def OrderedWrongFalsely : Prop := orderedRow.holds Tryz.pinned (OpenSpec.ofChange orderedWrong)

/-- 'orchardkeep.Answered': WHATEVER THE INPUT: true; the input reads as it did. -/
def answeredSpec : ChangeSpec := { name := "answered", fn := fun _ => fun
  | [d1, d2, d3] => { results := [.lit (.bool true)], args := [d1, d2, d3] }
  | _ => none }
def answeredRow : OpenClaim := { program := "ytbicffldggcdhaagreatdoor", sum := "8a71e3114628be2ec6b7165c96d9e61004afece57e6b4a401135f253045b4e88", func := "orchard/orchardkeep.Answered", spec := "answered", inPlace := ["internal/reflectlite.TypeOf", "maps.clone"], unfollowed := true, recurses := true, named := ["orchard/api.ErrArg", "orchard/api.ErrExists", "orchard/api.ErrNode", "orchard/api.ErrFull", "orchard/api.ErrRoot", "orchard/api.ErrCycle", "orchard/api.ErrQueue", "orchard/api.ErrJoined", "orchard/api.ErrNone"], plainKeys := false, apart := false, laid := [("orchard/api.ErrArg", laid_orchard_api_ErrArg), ("orchard/api.ErrRoot", laid_orchard_api_ErrRoot), ("orchard/api.ErrNode", laid_orchard_api_ErrNode), ("orchard/api.ErrExists", laid_orchard_api_ErrExists), ("orchard/api.ErrFull", laid_orchard_api_ErrFull), ("orchard/api.ErrCycle", laid_orchard_api_ErrCycle), ("orchard/api.ErrQueue", laid_orchard_api_ErrQueue), ("orchard/api.ErrJoined", laid_orchard_api_ErrJoined), ("orchard/api.ErrNone", laid_orchard_api_ErrNone)] }
def AnsweredSaid : Prop := answeredRow.holds Tryz.pinned (OpenSpec.ofChange answeredSpec)

/-- ITS FALSE NEIGHBOUR: 'it returns false'. Refute it at one input. -/
def answeredWrong : ChangeSpec := { name := "answered", fn := fun _ => fun
  | [d1, d2, d3] => { results := [.lit (.bool false)], args := [d1, d2, d3] }
  | _ => none }
def AnsweredWrongFalsely : Prop := answeredRow.holds Tryz.pinned (OpenSpec.ofChange answeredWrong)

/-- 'orchardkeep.Converged': WHATEVER THE INPUT: true; the input reads as it did. -/
def convergedSpec : ChangeSpec := { name := "converged", fn := fun _ => fun
  | [d1, d2, d3] => { results := [.lit (.bool true)], args := [d1, d2, d3] }
  | _ => none }
def convergedRow : OpenClaim := { program := "ytbicffldggcdhaagreatdoor", sum := "8a71e3114628be2ec6b7165c96d9e61004afece57e6b4a401135f253045b4e88", func := "orchard/orchardkeep.Converged", spec := "converged", inPlace := ["internal/reflectlite.TypeOf", "maps.clone"], unfollowed := true, recurses := true, named := ["orchard/api.ErrArg", "orchard/api.ErrExists", "orchard/api.ErrNode", "orchard/api.ErrFull", "orchard/api.ErrRoot", "orchard/api.ErrCycle", "orchard/api.ErrQueue", "orchard/api.ErrJoined", "orchard/api.ErrNone"], plainKeys := false, apart := false, laid := [("orchard/api.ErrArg", laid_orchard_api_ErrArg), ("orchard/api.ErrRoot", laid_orchard_api_ErrRoot), ("orchard/api.ErrNode", laid_orchard_api_ErrNode), ("orchard/api.ErrExists", laid_orchard_api_ErrExists), ("orchard/api.ErrFull", laid_orchard_api_ErrFull), ("orchard/api.ErrCycle", laid_orchard_api_ErrCycle), ("orchard/api.ErrQueue", laid_orchard_api_ErrQueue), ("orchard/api.ErrJoined", laid_orchard_api_ErrJoined), ("orchard/api.ErrNone", laid_orchard_api_ErrNone)] }
def ConvergedSaid : Prop := convergedRow.holds Tryz.pinned (OpenSpec.ofChange convergedSpec)

/-- ITS FALSE NEIGHBOUR: 'it returns false'. Refute it at one input. -/
def convergedWrong : ChangeSpec := { name := "converged", fn := fun _ => fun
  | [d1, d2, d3] => { results := [.lit (.bool false)], args := [d1, d2, d3] }
  | _ => none }
def ConvergedWrongFalsely : Prop := convergedRow.holds Tryz.pinned (OpenSpec.ofChange convergedWrong)

/-- 'orchardkeep.Seen': WHATEVER THE INPUT: true; the input reads as it did. -/
def seenSpec : ChangeSpec := { name := "seen", fn := fun _ => fun
  | [d1, d2, d3] => { results := [.lit (.bool true)], args := [d1, d2, d3] }
  | _ => none }
def seenRow : OpenClaim := { program := "ytbicffldggcdhaagreatdoor", sum := "8a71e3114628be2ec6b7165c96d9e61004afece57e6b4a401135f253045b4e88", func := "orchard/orchardkeep.Seen", spec := "seen", inPlace := ["internal/reflectlite.TypeOf", "maps.clone"], unfollowed := true, recurses := true, named := ["orchard/api.ErrArg", "orchard/api.ErrExists", "orchard/api.ErrNode", "orchard/api.ErrFull", "orchard/api.ErrRoot", "orchard/api.ErrCycle", "orchard/api.ErrQueue", "orchard/api.ErrJoined", "orchard/api.ErrNone"], plainKeys := false, apart := false, laid := [("orchard/api.ErrArg", laid_orchard_api_ErrArg), ("orchard/api.ErrRoot", laid_orchard_api_ErrRoot), ("orchard/api.ErrNode", laid_orchard_api_ErrNode), ("orchard/api.ErrExists", laid_orchard_api_ErrExists), ("orchard/api.ErrFull", laid_orchard_api_ErrFull), ("orchard/api.ErrCycle", laid_orchard_api_ErrCycle), ("orchard/api.ErrQueue", laid_orchard_api_ErrQueue), ("orchard/api.ErrJoined", laid_orchard_api_ErrJoined), ("orchard/api.ErrNone", laid_orchard_api_ErrNone)] }
def SeenSaid : Prop := seenRow.holds Tryz.pinned (OpenSpec.ofChange seenSpec)

/-- ITS FALSE NEIGHBOUR: 'it returns false'. Refute it at one input. -/
def seenWrong : ChangeSpec := { name := "seen", fn := fun _ => fun
  | [d1, d2, d3] => { results := [.lit (.bool false)], args := [d1, d2, d3] }
  | _ => none }
def SeenWrongFalsely : Prop := seenRow.holds Tryz.pinned (OpenSpec.ofChange seenWrong)

/-- 'orchardkeep.Quiet': WHATEVER THE INPUT: true; the input reads as it did. -/
def quietSpec : ChangeSpec := { name := "quiet", fn := fun _ => fun
  | [d1, d2, d3, d4] => { results := [.lit (.bool true)], args := [d1, d2, d3, d4] }
  | _ => none }
def quietRow : OpenClaim := { program := "ytbicffldggcdhaagreatdoor", sum := "8a71e3114628be2ec6b7165c96d9e61004afece57e6b4a401135f253045b4e88", func := "orchard/orchardkeep.Quiet", spec := "quiet", inPlace := ["internal/reflectlite.TypeOf", "maps.clone"], unfollowed := true, recurses := true, named := ["orchard/api.ErrArg", "orchard/api.ErrExists", "orchard/api.ErrNode", "orchard/api.ErrFull", "orchard/api.ErrRoot", "orchard/api.ErrCycle", "orchard/api.ErrQueue", "orchard/api.ErrJoined", "orchard/api.ErrNone"], plainKeys := false, apart := false, laid := [("orchard/api.ErrArg", laid_orchard_api_ErrArg), ("orchard/api.ErrRoot", laid_orchard_api_ErrRoot), ("orchard/api.ErrNode", laid_orchard_api_ErrNode), ("orchard/api.ErrExists", laid_orchard_api_ErrExists), ("orchard/api.ErrFull", laid_orchard_api_ErrFull), ("orchard/api.ErrCycle", laid_orchard_api_ErrCycle), ("orchard/api.ErrQueue", laid_orchard_api_ErrQueue), ("orchard/api.ErrJoined", laid_orchard_api_ErrJoined), ("orchard/api.ErrNone", laid_orchard_api_ErrNone)] }
def QuietSaid : Prop := quietRow.holds Tryz.pinned (OpenSpec.ofChange quietSpec)

/-- ITS FALSE NEIGHBOUR: 'it returns false'. Refute it at one input. -/
def quietWrong : ChangeSpec := { name := "quiet", fn := fun _ => fun
  | [d1, d2, d3, d4] => { results := [.lit (.bool false)], args := [d1, d2, d3, d4] }
  | _ => none }
def QuietWrongFalsely : Prop := quietRow.holds Tryz.pinned (OpenSpec.ofChange quietWrong)

/- THE SECOND FORM. 'bulk': how many values and letters a reading holds, each counted each time it is reached (what is shared counts as often as it is met; a slice's spare places count too). A statement '..UptoSaid' is the law's where the arguments, and the package variables that the reading takes, are together of bulk at most 1048576: NARROWER than '..Said'. Prove '..Said' where nothing that the law and all that it calls make is longer than what came in: it says more and counts as full. Else prove '..UptoSaid'. A law counts once. -/
mutual
def uptoBulk {H : Type} : DataW H → Nat
  | .lit (.string bytes) => bytes.length + 1
  | .lit _ => 1
  | .nil => 1
  | .ptr d => uptoBulk d + 1
  | .slice elems spare => uptoBulkAll elems + uptoBulkAll spare + 1
  | .agg parts => uptoBulkAll parts + 1
  | .iface _ d => uptoBulk d + 1
  | .map entries => uptoBulkEntries entries + 1
  | .held _ => 1
def uptoBulkAll {H : Type} : List (DataW H) → Nat
  | [] => 0
  | d :: r => uptoBulk d + uptoBulkAll r
def uptoBulkEntries {H : Type} : List (Lit × DataW H) → Nat
  | [] => 0
  | x :: r => uptoBulkEntry x + uptoBulkEntries r
def uptoBulkEntry {H : Type} : Lit × DataW H → Nat
  | (.string bytes, d) => bytes.length + uptoBulk d + 1
  | (_, d) => uptoBulk d + 1
 end
def uptoSmall : (H : Type) → List (DataW H) → Bool := fun _ ds => decide (uptoBulkAll ds ≤ 1048576)
def OpenSpec.upto (s : _root_.Go.ChangeSpec) : _root_.Go.OpenSpec := { _root_.Go.OpenSpec.ofChange s with cond := some uptoSmall }

/-- 'orchardlaw.Trees', WHERE WHAT IT READS IS OF BULK AT MOST 1048576: true; the input reads as it did. -/
def treesUptoRow : OpenClaim := { program := "ytbicffldggcdhaagreatdoor", sum := "8a71e3114628be2ec6b7165c96d9e61004afece57e6b4a401135f253045b4e88", func := "orchard/orchardlaw.Trees", spec := "trees", inPlace := ["maps.clone", "internal/reflectlite.TypeOf"], unfollowed := true, recurses := true, named := ["orchard/api.ErrArg", "orchard/api.ErrExists", "orchard/api.ErrNode", "orchard/api.ErrFull", "orchard/api.ErrRoot", "orchard/api.ErrCycle", "orchard/api.ErrQueue", "orchard/api.ErrJoined", "orchard/api.ErrNone"], plainKeys := false, apart := false, laid := [("orchard/api.ErrArg", laid_orchard_api_ErrArg), ("orchard/api.ErrRoot", laid_orchard_api_ErrRoot), ("orchard/api.ErrNode", laid_orchard_api_ErrNode), ("orchard/api.ErrExists", laid_orchard_api_ErrExists), ("orchard/api.ErrFull", laid_orchard_api_ErrFull), ("orchard/api.ErrCycle", laid_orchard_api_ErrCycle), ("orchard/api.ErrQueue", laid_orchard_api_ErrQueue), ("orchard/api.ErrJoined", laid_orchard_api_ErrJoined), ("orchard/api.ErrNone", laid_orchard_api_ErrNone)], narrowed := true }
def TreesUptoSaid : Prop := treesUptoRow.holds Tryz.pinned (OpenSpec.upto treesSpec)

/-- 'orchardlaw.Clones', WHERE WHAT IT READS IS OF BULK AT MOST 1048576: true; the input reads as it did. -/
def clonesUptoRow : OpenClaim := { program := "ytbicffldggcdhaagreatdoor", sum := "8a71e3114628be2ec6b7165c96d9e61004afece57e6b4a401135f253045b4e88", func := "orchard/orchardlaw.Clones", spec := "clones", inPlace := ["maps.clone", "internal/reflectlite.TypeOf"], unfollowed := true, recurses := true, named := ["orchard/api.ErrArg", "orchard/api.ErrExists", "orchard/api.ErrNode", "orchard/api.ErrFull", "orchard/api.ErrRoot", "orchard/api.ErrCycle", "orchard/api.ErrQueue", "orchard/api.ErrJoined", "orchard/api.ErrNone"], plainKeys := false, apart := false, laid := [("orchard/api.ErrArg", laid_orchard_api_ErrArg), ("orchard/api.ErrRoot", laid_orchard_api_ErrRoot), ("orchard/api.ErrNode", laid_orchard_api_ErrNode), ("orchard/api.ErrExists", laid_orchard_api_ErrExists), ("orchard/api.ErrFull", laid_orchard_api_ErrFull), ("orchard/api.ErrCycle", laid_orchard_api_ErrCycle), ("orchard/api.ErrQueue", laid_orchard_api_ErrQueue), ("orchard/api.ErrJoined", laid_orchard_api_ErrJoined), ("orchard/api.ErrNone", laid_orchard_api_ErrNone)], narrowed := true }
def ClonesUptoSaid : Prop := clonesUptoRow.holds Tryz.pinned (OpenSpec.upto clonesSpec)

/-- 'orchardlaw.Parties', WHERE WHAT IT READS IS OF BULK AT MOST 1048576: true; the input reads as it did. -/
def partiesUptoRow : OpenClaim := { program := "ytbicffldggcdhaagreatdoor", sum := "8a71e3114628be2ec6b7165c96d9e61004afece57e6b4a401135f253045b4e88", func := "orchard/orchardlaw.Parties", spec := "parties", inPlace := ["maps.clone", "internal/reflectlite.TypeOf"], unfollowed := true, recurses := true, named := ["orchard/api.ErrArg", "orchard/api.ErrExists", "orchard/api.ErrNode", "orchard/api.ErrFull", "orchard/api.ErrRoot", "orchard/api.ErrCycle", "orchard/api.ErrQueue", "orchard/api.ErrJoined", "orchard/api.ErrNone"], plainKeys := false, apart := false, laid := [("orchard/api.ErrArg", laid_orchard_api_ErrArg), ("orchard/api.ErrRoot", laid_orchard_api_ErrRoot), ("orchard/api.ErrNode", laid_orchard_api_ErrNode), ("orchard/api.ErrExists", laid_orchard_api_ErrExists), ("orchard/api.ErrFull", laid_orchard_api_ErrFull), ("orchard/api.ErrCycle", laid_orchard_api_ErrCycle), ("orchard/api.ErrQueue", laid_orchard_api_ErrQueue), ("orchard/api.ErrJoined", laid_orchard_api_ErrJoined), ("orchard/api.ErrNone", laid_orchard_api_ErrNone)], narrowed := true }
def PartiesUptoSaid : Prop := partiesUptoRow.holds Tryz.pinned (OpenSpec.upto partiesSpec)

/-- 'orchardkeep.Rooted', WHERE WHAT IT READS IS OF BULK AT MOST 1048576: true; the input reads as it did. -/
def rootedUptoRow : OpenClaim := { program := "ytbicffldggcdhaagreatdoor", sum := "8a71e3114628be2ec6b7165c96d9e61004afece57e6b4a401135f253045b4e88", func := "orchard/orchardkeep.Rooted", spec := "rooted", inPlace := ["internal/reflectlite.TypeOf", "maps.clone"], unfollowed := true, recurses := true, named := ["orchard/api.ErrArg", "orchard/api.ErrExists", "orchard/api.ErrNode", "orchard/api.ErrFull", "orchard/api.ErrRoot", "orchard/api.ErrCycle", "orchard/api.ErrQueue", "orchard/api.ErrJoined", "orchard/api.ErrNone"], plainKeys := false, apart := false, laid := [("orchard/api.ErrArg", laid_orchard_api_ErrArg), ("orchard/api.ErrRoot", laid_orchard_api_ErrRoot), ("orchard/api.ErrNode", laid_orchard_api_ErrNode), ("orchard/api.ErrExists", laid_orchard_api_ErrExists), ("orchard/api.ErrFull", laid_orchard_api_ErrFull), ("orchard/api.ErrCycle", laid_orchard_api_ErrCycle), ("orchard/api.ErrQueue", laid_orchard_api_ErrQueue), ("orchard/api.ErrJoined", laid_orchard_api_ErrJoined), ("orchard/api.ErrNone", laid_orchard_api_ErrNone)], narrowed := true }
def RootedUptoSaid : Prop := rootedUptoRow.holds Tryz.pinned (OpenSpec.upto rootedSpec)

/-- 'orchardlaw.Breaks', WHERE WHAT IT READS IS OF BULK AT MOST 1048576: true; the input reads as it did. -/
def breaksUptoRow : OpenClaim := { program := "ytbicffldggcdhaagreatdoor", sum := "8a71e3114628be2ec6b7165c96d9e61004afece57e6b4a401135f253045b4e88", func := "orchard/orchardlaw.Breaks", spec := "breaks", inPlace := ["maps.clone", "internal/reflectlite.TypeOf"], unfollowed := true, recurses := true, named := ["orchard/api.ErrArg", "orchard/api.ErrExists", "orchard/api.ErrNode", "orchard/api.ErrFull", "orchard/api.ErrRoot", "orchard/api.ErrCycle", "orchard/api.ErrQueue", "orchard/api.ErrJoined", "orchard/api.ErrNone"], plainKeys := false, apart := false, laid := [("orchard/api.ErrArg", laid_orchard_api_ErrArg), ("orchard/api.ErrRoot", laid_orchard_api_ErrRoot), ("orchard/api.ErrNode", laid_orchard_api_ErrNode), ("orchard/api.ErrExists", laid_orchard_api_ErrExists), ("orchard/api.ErrFull", laid_orchard_api_ErrFull), ("orchard/api.ErrCycle", laid_orchard_api_ErrCycle), ("orchard/api.ErrQueue", laid_orchard_api_ErrQueue), ("orchard/api.ErrJoined", laid_orchard_api_ErrJoined), ("orchard/api.ErrNone", laid_orchard_api_ErrNone)], narrowed := true }
def BreaksUptoSaid : Prop := breaksUptoRow.holds Tryz.pinned (OpenSpec.upto breaksSpec)

/-- 'orchardkeep.Ordered', WHERE WHAT IT READS IS OF BULK AT MOST 1048576: true; the input reads as it did. -/
def orderedUptoRow : OpenClaim := { program := "ytbicffldggcdhaagreatdoor", sum := "8a71e3114628be2ec6b7165c96d9e61004afece57e6b4a401135f253045b4e88", func := "orchard/orchardkeep.Ordered", spec := "ordered", inPlace := ["internal/reflectlite.TypeOf", "maps.clone"], unfollowed := true, recurses := true, named := ["orchard/api.ErrArg", "orchard/api.ErrExists", "orchard/api.ErrNode", "orchard/api.ErrFull", "orchard/api.ErrRoot", "orchard/api.ErrCycle", "orchard/api.ErrQueue", "orchard/api.ErrJoined", "orchard/api.ErrNone"], plainKeys := false, apart := false, laid := [("orchard/api.ErrArg", laid_orchard_api_ErrArg), ("orchard/api.ErrRoot", laid_orchard_api_ErrRoot), ("orchard/api.ErrNode", laid_orchard_api_ErrNode), ("orchard/api.ErrExists", laid_orchard_api_ErrExists), ("orchard/api.ErrFull", laid_orchard_api_ErrFull), ("orchard/api.ErrCycle", laid_orchard_api_ErrCycle), ("orchard/api.ErrQueue", laid_orchard_api_ErrQueue), ("orchard/api.ErrJoined", laid_orchard_api_ErrJoined), ("orchard/api.ErrNone", laid_orchard_api_ErrNone)], narrowed := true }
def OrderedUptoSaid : Prop := orderedUptoRow.holds Tryz.pinned (OpenSpec.upto orderedSpec)

/-- 'orchardkeep.Answered', WHERE WHAT IT READS IS OF BULK AT MOST 1048576: true; the input reads as it did. -/
def answeredUptoRow : OpenClaim := { program := "ytbicffldggcdhaagreatdoor", sum := "8a71e3114628be2ec6b7165c96d9e61004afece57e6b4a401135f253045b4e88", func := "orchard/orchardkeep.Answered", spec := "answered", inPlace := ["internal/reflectlite.TypeOf", "maps.clone"], unfollowed := true, recurses := true, named := ["orchard/api.ErrArg", "orchard/api.ErrExists", "orchard/api.ErrNode", "orchard/api.ErrFull", "orchard/api.ErrRoot", "orchard/api.ErrCycle", "orchard/api.ErrQueue", "orchard/api.ErrJoined", "orchard/api.ErrNone"], plainKeys := false, apart := false, laid := [("orchard/api.ErrArg", laid_orchard_api_ErrArg), ("orchard/api.ErrRoot", laid_orchard_api_ErrRoot), ("orchard/api.ErrNode", laid_orchard_api_ErrNode), ("orchard/api.ErrExists", laid_orchard_api_ErrExists), ("orchard/api.ErrFull", laid_orchard_api_ErrFull), ("orchard/api.ErrCycle", laid_orchard_api_ErrCycle), ("orchard/api.ErrQueue", laid_orchard_api_ErrQueue), ("orchard/api.ErrJoined", laid_orchard_api_ErrJoined), ("orchard/api.ErrNone", laid_orchard_api_ErrNone)], narrowed := true }
def AnsweredUptoSaid : Prop := answeredUptoRow.holds Tryz.pinned (OpenSpec.upto answeredSpec)

/-- 'orchardkeep.Converged', WHERE WHAT IT READS IS OF BULK AT MOST 1048576: true; the input reads as it did. -/
def convergedUptoRow : OpenClaim := { program := "ytbicffldggcdhaagreatdoor", sum := "8a71e3114628be2ec6b7165c96d9e61004afece57e6b4a401135f253045b4e88", func := "orchard/orchardkeep.Converged", spec := "converged", inPlace := ["internal/reflectlite.TypeOf", "maps.clone"], unfollowed := true, recurses := true, named := ["orchard/api.ErrArg", "orchard/api.ErrExists", "orchard/api.ErrNode", "orchard/api.ErrFull", "orchard/api.ErrRoot", "orchard/api.ErrCycle", "orchard/api.ErrQueue", "orchard/api.ErrJoined", "orchard/api.ErrNone"], plainKeys := false, apart := false, laid := [("orchard/api.ErrArg", laid_orchard_api_ErrArg), ("orchard/api.ErrRoot", laid_orchard_api_ErrRoot), ("orchard/api.ErrNode", laid_orchard_api_ErrNode), ("orchard/api.ErrExists", laid_orchard_api_ErrExists), ("orchard/api.ErrFull", laid_orchard_api_ErrFull), ("orchard/api.ErrCycle", laid_orchard_api_ErrCycle), ("orchard/api.ErrQueue", laid_orchard_api_ErrQueue), ("orchard/api.ErrJoined", laid_orchard_api_ErrJoined), ("orchard/api.ErrNone", laid_orchard_api_ErrNone)], narrowed := true }
def ConvergedUptoSaid : Prop := convergedUptoRow.holds Tryz.pinned (OpenSpec.upto convergedSpec)

/-- 'orchardkeep.Seen', WHERE WHAT IT READS IS OF BULK AT MOST 1048576: true; the input reads as it did. -/
def seenUptoRow : OpenClaim := { program := "ytbicffldggcdhaagreatdoor", sum := "8a71e3114628be2ec6b7165c96d9e61004afece57e6b4a401135f253045b4e88", func := "orchard/orchardkeep.Seen", spec := "seen", inPlace := ["internal/reflectlite.TypeOf", "maps.clone"], unfollowed := true, recurses := true, named := ["orchard/api.ErrArg", "orchard/api.ErrExists", "orchard/api.ErrNode", "orchard/api.ErrFull", "orchard/api.ErrRoot", "orchard/api.ErrCycle", "orchard/api.ErrQueue", "orchard/api.ErrJoined", "orchard/api.ErrNone"], plainKeys := false, apart := false, laid := [("orchard/api.ErrArg", laid_orchard_api_ErrArg), ("orchard/api.ErrRoot", laid_orchard_api_ErrRoot), ("orchard/api.ErrNode", laid_orchard_api_ErrNode), ("orchard/api.ErrExists", laid_orchard_api_ErrExists), ("orchard/api.ErrFull", laid_orchard_api_ErrFull), ("orchard/api.ErrCycle", laid_orchard_api_ErrCycle), ("orchard/api.ErrQueue", laid_orchard_api_ErrQueue), ("orchard/api.ErrJoined", laid_orchard_api_ErrJoined), ("orchard/api.ErrNone", laid_orchard_api_ErrNone)], narrowed := true }
def SeenUptoSaid : Prop := seenUptoRow.holds Tryz.pinned (OpenSpec.upto seenSpec)

/-- 'orchardkeep.Quiet', WHERE WHAT IT READS IS OF BULK AT MOST 1048576: true; the input reads as it did. -/
def quietUptoRow : OpenClaim := { program := "ytbicffldggcdhaagreatdoor", sum := "8a71e3114628be2ec6b7165c96d9e61004afece57e6b4a401135f253045b4e88", func := "orchard/orchardkeep.Quiet", spec := "quiet", inPlace := ["internal/reflectlite.TypeOf", "maps.clone"], unfollowed := true, recurses := true, named := ["orchard/api.ErrArg", "orchard/api.ErrExists", "orchard/api.ErrNode", "orchard/api.ErrFull", "orchard/api.ErrRoot", "orchard/api.ErrCycle", "orchard/api.ErrQueue", "orchard/api.ErrJoined", "orchard/api.ErrNone"], plainKeys := false, apart := false, laid := [("orchard/api.ErrArg", laid_orchard_api_ErrArg), ("orchard/api.ErrRoot", laid_orchard_api_ErrRoot), ("orchard/api.ErrNode", laid_orchard_api_ErrNode), ("orchard/api.ErrExists", laid_orchard_api_ErrExists), ("orchard/api.ErrFull", laid_orchard_api_ErrFull), ("orchard/api.ErrCycle", laid_orchard_api_ErrCycle), ("orchard/api.ErrQueue", laid_orchard_api_ErrQueue), ("orchard/api.ErrJoined", laid_orchard_api_ErrJoined), ("orchard/api.ErrNone", laid_orchard_api_ErrNone)], narrowed := true }
def QuietUptoSaid : Prop := quietUptoRow.holds Tryz.pinned (OpenSpec.upto quietSpec)

end Rows
end Go.Proofs.YtbicffldggcdhaaGreatDoor

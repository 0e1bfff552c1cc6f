/-
  NARROWER THAN 'FOR EVERY INPUT', by the rows' own cells (each row's printed sentence says how): Names: laid · Walks: laid.
  DERIVED. THE GIVEN ROWS OF THIS SEAT. 2 by the template 'for every input the law returns true; each argument reads behind the call as it read before'; 0 by the template 'total and deterministic' (their statements: YtbicffldggcdhaaDoorTotals.lean).
  GIVEN WITH THE SEED: the statements are not yours to turn. If you find one false, say at which input.
  Laid BY PROGRAM, IN A SANDBOX (cutbox-rows.mjs): the forced cells as the released guide's own fill.sh prints them over the translation 05e84233e541f04c… (all of the seat's roots in one cut). By AI agents, Wed Nov 11 2026. No macro, syntax, notation, axiom, sorry.
-/
import Derived.Test.YtbicffldggcdhaaDoorChecked
import GoSem.Claim
import GoSem.ClaimJoined
import GoSem.ClaimMapViews
import Derived.JoinedTies
import Derived.KernelRfl
namespace Go.Proofs.YtbicffldggcdhaaDoor
/- THE CELL 'sum', in the pinned program and in every row, IS THE sha256 OF THE DUMP (.gsa) THAT YtbicffldggcdhaaDoorProg.lean LOADS. Nothing in Lean hashes anything: it is a label: what it is worth is what the hold of that sum in a sandbox is worth. -/
noncomputable def Tryd.pinned : Pinned := { name := "ytbicffldggcdhaadoor", sum := "05e84233e541f04ce31f8fd6388300ec709746d6e9142ed5c22b829167d00a08", checked := Tryd.checked }
namespace Rows
def none {H : Type} : Left H := { results := [], args := [] }

/- WHAT THE LISTED PACKAGE-LEVEL VARIABLES READ AS WHEN THE CALL BEGINS. Each datum BY PROGRAM (the guide's laid-datum.mjs) off the statement by which the dump's own 'gosem.cut.vars' lays the variable. In a bare row this is a premise. The card (YtbicffldggcdhaaDoorCards.lean) ties it to the program's text. -/
def laid_orchard_api_ErrArg {H : Type} : DataW H := .iface "*errors.errorString" (.ptr (.agg [.lit (.string [115, 111, 109, 101, 116, 104, 105, 110, 103, 32, 116, 104, 97, 116, 32, 105, 115, 32, 104, 97, 110, 100, 101, 100, 32, 105, 110, 32, 97, 110, 100, 32, 109, 97, 121, 32, 110, 111, 116, 32, 98, 101])]))
def laid_orchard_api_ErrRoot {H : Type} : DataW H := .iface "*errors.errorString" (.ptr (.agg [.lit (.string [116, 104, 101, 32, 114, 111, 111, 116, 32, 115, 116, 97, 121, 115, 32, 97, 115, 32, 105, 116, 32, 105, 115])]))
def laid_orchard_api_ErrNode {H : Type} : DataW H := .iface "*errors.errorString" (.ptr (.agg [.lit (.string [110, 111, 32, 115, 117, 99, 104, 32, 110, 111, 100, 101])]))
def laid_orchard_api_ErrExists {H : Type} : DataW H := .iface "*errors.errorString" (.ptr (.agg [.lit (.string [116, 104, 101, 32, 110, 111, 100, 101, 32, 105, 115, 32, 116, 104, 101, 114, 101, 32, 97, 108, 114, 101, 97, 100, 121])]))
def laid_orchard_api_ErrFull {H : Type} : DataW H := .iface "*errors.errorString" (.ptr (.agg [.lit (.string [116, 104, 101, 114, 101, 32, 97, 114, 101, 32, 97, 115, 32, 109, 97, 110, 121, 32, 110, 111, 100, 101, 115, 32, 97, 115, 32, 116, 104, 101, 114, 101, 32, 109, 97, 121, 32, 98, 101])]))
def laid_orchard_api_ErrCycle {H : Type} : DataW H := .iface "*errors.errorString" (.ptr (.agg [.lit (.string [97, 32, 110, 111, 100, 101, 32, 119, 111, 117, 108, 100, 32, 108, 105, 101, 32, 98, 101, 108, 111, 119, 32, 105, 116, 115, 101, 108, 102])]))
def laid_orchard_api_ErrQueue {H : Type} : DataW H := .iface "*errors.errorString" (.ptr (.agg [.lit (.string [116, 111, 111, 32, 109, 97, 110, 121, 32, 101, 100, 105, 116, 115, 32, 119, 97, 105, 116, 32, 102, 111, 114, 32, 97, 110, 32, 97, 110, 115, 119, 101, 114])]))
def laid_orchard_api_ErrJoined {H : Type} : DataW H := .iface "*errors.errorString" (.ptr (.agg [.lit (.string [116, 104, 101, 32, 99, 108, 105, 101, 110, 116, 32, 105, 115, 32, 116, 104, 101, 114, 101, 32, 97, 108, 114, 101, 97, 100, 121, 44, 32, 111, 114, 32, 105, 115, 32, 110, 111, 116, 32, 116, 104, 101, 114, 101])]))
def laid_orchard_api_ErrNone {H : Type} : DataW H := .iface "*errors.errorString" (.ptr (.agg [.lit (.string [116, 104, 101, 114, 101, 32, 105, 115, 32, 110, 111, 116, 104, 105, 110, 103, 32, 111, 110, 32, 105, 116, 115, 32, 119, 97, 121])]))

/-- 'orchardlaw.Names': WHATEVER THE INPUT: true; the input reads as it did. -/
def namesSpec : ChangeSpec := { name := "names", fn := fun _ => fun
  | [] => { results := [.lit (.bool true)], args := [] }
  | _ => none }
def namesRow : OpenClaim := { program := "ytbicffldggcdhaadoor", sum := "05e84233e541f04ce31f8fd6388300ec709746d6e9142ed5c22b829167d00a08", func := "orchard/orchardlaw.Names", spec := "names", named := ["orchard/api.ErrArg", "orchard/api.ErrRoot", "orchard/api.ErrNode", "orchard/api.ErrExists", "orchard/api.ErrFull", "orchard/api.ErrCycle", "orchard/api.ErrQueue", "orchard/api.ErrJoined", "orchard/api.ErrNone"], apart := false, laid := [("orchard/api.ErrArg", laid_orchard_api_ErrArg), ("orchard/api.ErrRoot", laid_orchard_api_ErrRoot), ("orchard/api.ErrNode", laid_orchard_api_ErrNode), ("orchard/api.ErrExists", laid_orchard_api_ErrExists), ("orchard/api.ErrFull", laid_orchard_api_ErrFull), ("orchard/api.ErrCycle", laid_orchard_api_ErrCycle), ("orchard/api.ErrQueue", laid_orchard_api_ErrQueue), ("orchard/api.ErrJoined", laid_orchard_api_ErrJoined), ("orchard/api.ErrNone", laid_orchard_api_ErrNone)] }
def NamesSaid : Prop := namesRow.holds Tryd.pinned (OpenSpec.ofChange namesSpec)

/-- ITS FALSE NEIGHBOUR: 'it returns false'. Refute it at one input. -/
def namesWrong : ChangeSpec := { name := "names", fn := fun _ => fun
  | [] => { results := [.lit (.bool false)], args := [] }
  | _ => none }
def NamesWrongFalsely : Prop := namesRow.holds Tryd.pinned (OpenSpec.ofChange namesWrong)

/-- 'orchardlaw.Walks': WHATEVER THE INPUT: true; the input reads as it did. -/
def walksSpec : ChangeSpec := { name := "walks", fn := fun _ => fun
  | [d1, d2, d3, d4] => { results := [.lit (.bool true)], args := [d1, d2, d3, d4] }
  | _ => none }
def walksRow : OpenClaim := { program := "ytbicffldggcdhaadoor", sum := "05e84233e541f04ce31f8fd6388300ec709746d6e9142ed5c22b829167d00a08", func := "orchard/orchardlaw.Walks", spec := "walks", unfollowed := true, recurses := true, named := ["orchard/api.ErrArg", "orchard/api.ErrExists", "orchard/api.ErrNode", "orchard/api.ErrFull", "orchard/api.ErrRoot", "orchard/api.ErrCycle"], apart := false, laid := [("orchard/api.ErrArg", laid_orchard_api_ErrArg), ("orchard/api.ErrRoot", laid_orchard_api_ErrRoot), ("orchard/api.ErrNode", laid_orchard_api_ErrNode), ("orchard/api.ErrExists", laid_orchard_api_ErrExists), ("orchard/api.ErrFull", laid_orchard_api_ErrFull), ("orchard/api.ErrCycle", laid_orchard_api_ErrCycle)] }
def WalksSaid : Prop := walksRow.holds Tryd.pinned (OpenSpec.ofChange walksSpec)

/-- ITS FALSE NEIGHBOUR: 'it returns false'. Refute it at one input. -/
def walksWrong : ChangeSpec := { name := "walks", fn := fun _ => fun
  | [d1, d2, d3, d4] => { results := [.lit (.bool false)], args := [d1, d2, d3, d4] }
  | _ => none }
def WalksWrongFalsely : Prop := walksRow.holds Tryd.pinned (OpenSpec.ofChange walksWrong)

/- THE SECOND FORM. 'bulk': how many values and letters a reading holds, each counted each time it is reached (what is shared counts as often as it is met; a slice's spare places count too). A statement '..UptoSaid' is the law's where the arguments, and the package variables that the reading takes, are together of bulk at most 1048576: NARROWER than '..Said'. Prove '..Said' where nothing that the law and all that it calls make is longer than what came in: it says more and counts as full. Else prove '..UptoSaid'. A law counts once. -/
mutual
def uptoBulk {H : Type} : DataW H → Nat
  | .lit (.string bytes) => bytes.length + 1
  | .lit _ => 1
  | .nil => 1
  | .ptr d => uptoBulk d + 1
  | .slice elems spare => uptoBulkAll elems + uptoBulkAll spare + 1
  | .agg parts => uptoBulkAll parts + 1
  | .iface _ d => uptoBulk d + 1
  | .map entries => uptoBulkEntries entries + 1
  | .held _ => 1
def uptoBulkAll {H : Type} : List (DataW H) → Nat
  | [] => 0
  | d :: r => uptoBulk d + uptoBulkAll r
def uptoBulkEntries {H : Type} : List (Lit × DataW H) → Nat
  | [] => 0
  | x :: r => uptoBulkEntry x + uptoBulkEntries r
def uptoBulkEntry {H : Type} : Lit × DataW H → Nat
  | (.string bytes, d) => bytes.length + uptoBulk d + 1
  | (_, d) => uptoBulk d + 1
 end
def uptoSmall : (H : Type) → List (DataW H) → Bool := fun _ ds => decide (uptoBulkAll ds ≤ 1048576)
def OpenSpec.upto (s : _root_.Go.ChangeSpec) : _root_.Go.OpenSpec := { _root_.Go.OpenSpec.ofChange s with cond := some uptoSmall }

/-- 'orchardlaw.Names', WHERE WHAT IT READS IS OF BULK AT MOST 1048576: true; the input reads as it did. -/
def namesUptoRow : OpenClaim := { program := "ytbicffldggcdhaadoor", sum := "05e84233e541f04ce31f8fd6388300ec709746d6e9142ed5c22b829167d00a08", func := "orchard/orchardlaw.Names", spec := "names", named := ["orchard/api.ErrArg", "orchard/api.ErrRoot", "orchard/api.ErrNode", "orchard/api.ErrExists", "orchard/api.ErrFull", "orchard/api.ErrCycle", "orchard/api.ErrQueue", "orchard/api.ErrJoined", "orchard/api.ErrNone"], apart := false, laid := [("orchard/api.ErrArg", laid_orchard_api_ErrArg), ("orchard/api.ErrRoot", laid_orchard_api_ErrRoot), ("orchard/api.ErrNode", laid_orchard_api_ErrNode), ("orchard/api.ErrExists", laid_orchard_api_ErrExists), ("orchard/api.ErrFull", laid_orchard_api_ErrFull), ("orchard/api.ErrCycle", laid_orchard_api_ErrCycle), ("orchard/api.ErrQueue", laid_orchard_api_ErrQueue), ("orchard/api.ErrJoined", laid_orchard_api_ErrJoined), ("orchard/api.ErrNone", laid_orchard_api_ErrNone)], narrowed := true }
def NamesUptoSaid : Prop := namesUptoRow.holds Tryd.pinned (OpenSpec.upto namesSpec)

/-- 'orchardlaw.Walks', WHERE WHAT IT READS IS OF BULK AT MOST 1048576: true; the input reads as it did. -/
def walksUptoRow : OpenClaim := { program := "ytbicffldggcdhaadoor", sum := "05e84233e541f04ce31f8fd6388300ec709746d6e9142ed5c22b829167d00a08", func := "orchard/orchardlaw.Walks", spec := "walks", unfollowed := true, recurses := true, named := ["orchard/api.ErrArg", "orchard/api.ErrExists", "orchard/api.ErrNode", "orchard/api.ErrFull", "orchard/api.ErrRoot", "orchard/api.ErrCycle"], apart := false, laid := [("orchard/api.ErrArg", laid_orchard_api_ErrArg), ("orchard/api.ErrRoot", laid_orchard_api_ErrRoot), ("orchard/api.ErrNode", laid_orchard_api_ErrNode), ("orchard/api.ErrExists", laid_orchard_api_ErrExists), ("orchard/api.ErrFull", laid_orchard_api_ErrFull), ("orchard/api.ErrCycle", laid_orchard_api_ErrCycle)], narrowed := true }
def WalksUptoSaid : Prop := walksUptoRow.holds Tryd.pinned (OpenSpec.upto walksSpec)

end Rows
end Go.Proofs.YtbicffldggcdhaaDoor

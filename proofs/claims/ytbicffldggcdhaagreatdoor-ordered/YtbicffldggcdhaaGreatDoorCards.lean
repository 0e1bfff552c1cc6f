/-
  DERIVED. GIVEN WITH THE SEED: THE CARDS: each row of YtbicffldggcdhaaGreatDoorRows.lean that lists a variable, with what it lists TIED to the program's text (the seventh form; the later family's looks); each row that meets fmt, with fmt's text TOLD by the authors' own Lean function (tested against real Go, not proved from fmt's source: count such statements apart). THE CARD IS WHAT COUNTS. Prove the row's statement (the work); the ties are given (YtbicffldggcdhaaGreatDoorTie.lean); close each card by the builder's one call (the guide's Derived/Test/ToyasCard.lean, 'card_holds'). Laid BY PROGRAM, IN A SANDBOX (cutbox-door.mjs). By AI agents, Wed Nov 11 2026. No macro, syntax, notation, axiom, sorry.
-/
import Derived.Test.YtbicffldggcdhaaGreatDoorRows
import GoSem.ClaimSeven
namespace Go.Proofs.YtbicffldggcdhaaGreatDoor
namespace Rows

/-- THE TIED CARD OF 'orchardlaw.Trees'. -/
def treesCard : Claim7 := { stood := { row := treesRow, standIns := [], harness := (true, "607c159113d59adddfbb32ea37143910140c0b80e27b4cc85c380c355aecac1a"), looks := true }, kinds := [], alts := [], laidByText := true, laidKinds := [.sentinel, .sentinel, .sentinel, .sentinel, .sentinel, .sentinel, .sentinel, .sentinel, .sentinel], laidTests := true, laidLooks := .later }
def TreesCardSaid : Prop := Claim7.holds Tryz.pinned (.plain (OpenSpec.ofChange treesSpec)) treesCard

/-- THE TIED CARD OF 'orchardlaw.Clones'. -/
def clonesCard : Claim7 := { stood := { row := clonesRow, standIns := [], harness := (true, "607c159113d59adddfbb32ea37143910140c0b80e27b4cc85c380c355aecac1a"), looks := true }, kinds := [], alts := [], laidByText := true, laidKinds := [.sentinel, .sentinel, .sentinel, .sentinel, .sentinel, .sentinel, .sentinel, .sentinel, .sentinel], laidTests := true, laidLooks := .later }
def ClonesCardSaid : Prop := Claim7.holds Tryz.pinned (.plain (OpenSpec.ofChange clonesSpec)) clonesCard

/-- THE TIED CARD OF 'orchardlaw.Parties'. -/
def partiesCard : Claim7 := { stood := { row := partiesRow, standIns := [], harness := (true, "607c159113d59adddfbb32ea37143910140c0b80e27b4cc85c380c355aecac1a"), looks := true }, kinds := [], alts := [], laidByText := true, laidKinds := [.sentinel, .sentinel, .sentinel, .sentinel, .sentinel, .sentinel, .sentinel, .sentinel, .sentinel], laidTests := true, laidLooks := .later }
def PartiesCardSaid : Prop := Claim7.holds Tryz.pinned (.plain (OpenSpec.ofChange partiesSpec)) partiesCard

/-- THE TIED CARD OF 'orchardkeep.Rooted'. -/
def rootedCard : Claim7 := { stood := { row := rootedRow, standIns := [], harness := (true, "607c159113d59adddfbb32ea37143910140c0b80e27b4cc85c380c355aecac1a"), looks := true }, kinds := [], alts := [], laidByText := true, laidKinds := [.sentinel, .sentinel, .sentinel, .sentinel, .sentinel, .sentinel, .sentinel, .sentinel, .sentinel], laidTests := true, laidLooks := .later }
def RootedCardSaid : Prop := Claim7.holds Tryz.pinned (.plain (OpenSpec.ofChange rootedSpec)) rootedCard

/-- THE TIED CARD OF 'orchardlaw.Breaks'. -/
def breaksCard : Claim7 := { stood := { row := breaksRow, standIns := [], harness := (true, "607c159113d59adddfbb32ea37143910140c0b80e27b4cc85c380c355aecac1a"), looks := true }, kinds := [], alts := [], laidByText := true, laidKinds := [.sentinel, .sentinel, .sentinel, .sentinel, .sentinel, .sentinel, .sentinel, .sentinel, .sentinel], laidTests := true, laidLooks := .later }
def BreaksCardSaid : Prop := Claim7.holds Tryz.pinned (.plain (OpenSpec.ofChange breaksSpec)) breaksCard

/-- THE TIED CARD OF 'orchardkeep.Ordered'. -/
def orderedCard : Claim7 := { stood := { row := orderedRow, standIns := [], harness := (true, "607c159113d59adddfbb32ea37143910140c0b80e27b4cc85c380c355aecac1a"), looks := true }, kinds := [], alts := [], laidByText := true, laidKinds := [.sentinel, .sentinel, .sentinel, .sentinel, .sentinel, .sentinel, .sentinel, .sentinel, .sentinel], laidTests := true, laidLooks := .later }
def OrderedCardSaid : Prop := Claim7.holds Tryz.pinned (.plain (OpenSpec.ofChange orderedSpec)) orderedCard

/-- THE TIED CARD OF 'orchardkeep.Answered'. -/
def answeredCard : Claim7 := { stood := { row := answeredRow, standIns := [], harness := (true, "607c159113d59adddfbb32ea37143910140c0b80e27b4cc85c380c355aecac1a"), looks := true }, kinds := [], alts := [], laidByText := true, laidKinds := [.sentinel, .sentinel, .sentinel, .sentinel, .sentinel, .sentinel, .sentinel, .sentinel, .sentinel], laidTests := true, laidLooks := .later }
def AnsweredCardSaid : Prop := Claim7.holds Tryz.pinned (.plain (OpenSpec.ofChange answeredSpec)) answeredCard

/-- THE TIED CARD OF 'orchardkeep.Converged'. -/
def convergedCard : Claim7 := { stood := { row := convergedRow, standIns := [], harness := (true, "607c159113d59adddfbb32ea37143910140c0b80e27b4cc85c380c355aecac1a"), looks := true }, kinds := [], alts := [], laidByText := true, laidKinds := [.sentinel, .sentinel, .sentinel, .sentinel, .sentinel, .sentinel, .sentinel, .sentinel, .sentinel], laidTests := true, laidLooks := .later }
def ConvergedCardSaid : Prop := Claim7.holds Tryz.pinned (.plain (OpenSpec.ofChange convergedSpec)) convergedCard

/-- THE TIED CARD OF 'orchardkeep.Seen'. -/
def seenCard : Claim7 := { stood := { row := seenRow, standIns := [], harness := (true, "607c159113d59adddfbb32ea37143910140c0b80e27b4cc85c380c355aecac1a"), looks := true }, kinds := [], alts := [], laidByText := true, laidKinds := [.sentinel, .sentinel, .sentinel, .sentinel, .sentinel, .sentinel, .sentinel, .sentinel, .sentinel], laidTests := true, laidLooks := .later }
def SeenCardSaid : Prop := Claim7.holds Tryz.pinned (.plain (OpenSpec.ofChange seenSpec)) seenCard

/-- THE TIED CARD OF 'orchardkeep.Quiet'. -/
def quietCard : Claim7 := { stood := { row := quietRow, standIns := [], harness := (true, "607c159113d59adddfbb32ea37143910140c0b80e27b4cc85c380c355aecac1a"), looks := true }, kinds := [], alts := [], laidByText := true, laidKinds := [.sentinel, .sentinel, .sentinel, .sentinel, .sentinel, .sentinel, .sentinel, .sentinel, .sentinel], laidTests := true, laidLooks := .later }
def QuietCardSaid : Prop := Claim7.holds Tryz.pinned (.plain (OpenSpec.ofChange quietSpec)) quietCard

/-- THE SECOND FORM's CARD OF 'orchardlaw.Trees'. -/
def treesUptoCard : Claim7 := { stood := { row := treesUptoRow, standIns := [], harness := (true, "607c159113d59adddfbb32ea37143910140c0b80e27b4cc85c380c355aecac1a"), looks := true }, kinds := [], alts := [], laidByText := true, laidKinds := [.sentinel, .sentinel, .sentinel, .sentinel, .sentinel, .sentinel, .sentinel, .sentinel, .sentinel], laidTests := true, laidLooks := .later }
def TreesUptoCardSaid : Prop := Claim7.holds Tryz.pinned (.plain (OpenSpec.upto treesSpec)) treesUptoCard

/-- THE SECOND FORM's CARD OF 'orchardlaw.Clones'. -/
def clonesUptoCard : Claim7 := { stood := { row := clonesUptoRow, standIns := [], harness := (true, "607c159113d59adddfbb32ea37143910140c0b80e27b4cc85c380c355aecac1a"), looks := true }, kinds := [], alts := [], laidByText := true, laidKinds := [.sentinel, .sentinel, .sentinel, .sentinel, .sentinel, .sentinel, .sentinel, .sentinel, .sentinel], laidTests := true, laidLooks := .later }
def ClonesUptoCardSaid : Prop := Claim7.holds Tryz.pinned (.plain (OpenSpec.upto clonesSpec)) clonesUptoCard

/-- THE SECOND FORM's CARD OF 'orchardlaw.Parties'. -/
def partiesUptoCard : Claim7 := { stood := { row := partiesUptoRow, standIns := [], harness := (true, "607c159113d59adddfbb32ea37143910140c0b80e27b4cc85c380c355aecac1a"), looks := true }, kinds := [], alts := [], laidByText := true, laidKinds := [.sentinel, .sentinel, .sentinel, .sentinel, .sentinel, .sentinel, .sentinel, .sentinel, .sentinel], laidTests := true, laidLooks := .later }
def PartiesUptoCardSaid : Prop := Claim7.holds Tryz.pinned (.plain (OpenSpec.upto partiesSpec)) partiesUptoCard

/-- THE SECOND FORM's CARD OF 'orchardkeep.Rooted'. -/
def rootedUptoCard : Claim7 := { stood := { row := rootedUptoRow, standIns := [], harness := (true, "607c159113d59adddfbb32ea37143910140c0b80e27b4cc85c380c355aecac1a"), looks := true }, kinds := [], alts := [], laidByText := true, laidKinds := [.sentinel, .sentinel, .sentinel, .sentinel, .sentinel, .sentinel, .sentinel, .sentinel, .sentinel], laidTests := true, laidLooks := .later }
def RootedUptoCardSaid : Prop := Claim7.holds Tryz.pinned (.plain (OpenSpec.upto rootedSpec)) rootedUptoCard

/-- THE SECOND FORM's CARD OF 'orchardlaw.Breaks'. -/
def breaksUptoCard : Claim7 := { stood := { row := breaksUptoRow, standIns := [], harness := (true, "607c159113d59adddfbb32ea37143910140c0b80e27b4cc85c380c355aecac1a"), looks := true }, kinds := [], alts := [], laidByText := true, laidKinds := [.sentinel, .sentinel, .sentinel, .sentinel, .sentinel, .sentinel, .sentinel, .sentinel, .sentinel], laidTests := true, laidLooks := .later }
def BreaksUptoCardSaid : Prop := Claim7.holds Tryz.pinned (.plain (OpenSpec.upto breaksSpec)) breaksUptoCard

/-- THE SECOND FORM's CARD OF 'orchardkeep.Ordered'. -/
def orderedUptoCard : Claim7 := { stood := { row := orderedUptoRow, standIns := [], harness := (true, "607c159113d59adddfbb32ea37143910140c0b80e27b4cc85c380c355aecac1a"), looks := true }, kinds := [], alts := [], laidByText := true, laidKinds := [.sentinel, .sentinel, .sentinel, .sentinel, .sentinel, .sentinel, .sentinel, .sentinel, .sentinel], laidTests := true, laidLooks := .later }
def OrderedUptoCardSaid : Prop := Claim7.holds Tryz.pinned (.plain (OpenSpec.upto orderedSpec)) orderedUptoCard

/-- THE SECOND FORM's CARD OF 'orchardkeep.Answered'. -/
def answeredUptoCard : Claim7 := { stood := { row := answeredUptoRow, standIns := [], harness := (true, "607c159113d59adddfbb32ea37143910140c0b80e27b4cc85c380c355aecac1a"), looks := true }, kinds := [], alts := [], laidByText := true, laidKinds := [.sentinel, .sentinel, .sentinel, .sentinel, .sentinel, .sentinel, .sentinel, .sentinel, .sentinel], laidTests := true, laidLooks := .later }
def AnsweredUptoCardSaid : Prop := Claim7.holds Tryz.pinned (.plain (OpenSpec.upto answeredSpec)) answeredUptoCard

/-- THE SECOND FORM's CARD OF 'orchardkeep.Converged'. -/
def convergedUptoCard : Claim7 := { stood := { row := convergedUptoRow, standIns := [], harness := (true, "607c159113d59adddfbb32ea37143910140c0b80e27b4cc85c380c355aecac1a"), looks := true }, kinds := [], alts := [], laidByText := true, laidKinds := [.sentinel, .sentinel, .sentinel, .sentinel, .sentinel, .sentinel, .sentinel, .sentinel, .sentinel], laidTests := true, laidLooks := .later }
def ConvergedUptoCardSaid : Prop := Claim7.holds Tryz.pinned (.plain (OpenSpec.upto convergedSpec)) convergedUptoCard

/-- THE SECOND FORM's CARD OF 'orchardkeep.Seen'. -/
def seenUptoCard : Claim7 := { stood := { row := seenUptoRow, standIns := [], harness := (true, "607c159113d59adddfbb32ea37143910140c0b80e27b4cc85c380c355aecac1a"), looks := true }, kinds := [], alts := [], laidByText := true, laidKinds := [.sentinel, .sentinel, .sentinel, .sentinel, .sentinel, .sentinel, .sentinel, .sentinel, .sentinel], laidTests := true, laidLooks := .later }
def SeenUptoCardSaid : Prop := Claim7.holds Tryz.pinned (.plain (OpenSpec.upto seenSpec)) seenUptoCard

/-- THE SECOND FORM's CARD OF 'orchardkeep.Quiet'. -/
def quietUptoCard : Claim7 := { stood := { row := quietUptoRow, standIns := [], harness := (true, "607c159113d59adddfbb32ea37143910140c0b80e27b4cc85c380c355aecac1a"), looks := true }, kinds := [], alts := [], laidByText := true, laidKinds := [.sentinel, .sentinel, .sentinel, .sentinel, .sentinel, .sentinel, .sentinel, .sentinel, .sentinel], laidTests := true, laidLooks := .later }
def QuietUptoCardSaid : Prop := Claim7.holds Tryz.pinned (.plain (OpenSpec.upto quietSpec)) quietUptoCard
end Rows
end Go.Proofs.YtbicffldggcdhaaGreatDoor

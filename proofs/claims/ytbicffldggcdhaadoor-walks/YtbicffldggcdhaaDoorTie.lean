/-
  DERIVED. GIVEN WITH THE SEED: THE PROGRAM's TIES (one call each: nine closed facts by the kernel) AND EACH ROW's TIE, after the 31st guide's Derived/Test/Toyas{Tie, Card}.lean. No idea stands in it: it is a product of the set-up. Laid BY PROGRAM, IN A SANDBOX (cutbox-door.mjs). By AI agents, Wed Nov 11 2026. No macro, syntax, notation, axiom, sorry.
-/
import Derived.Test.YtbicffldggcdhaaDoorRows
import Derived.LaidByTextLater
import Derived.SevenTiedAt
import Derived.LaidSub
import Derived.LaidOnce
namespace Go.Proofs.YtbicffldggcdhaaDoor
open Go
set_option maxRecDepth 100000
theorem seatTie1 : Tryd.prog.laidByTextLater [("orchard/api.ErrArg", Rows.laid_orchard_api_ErrArg), ("orchard/api.ErrRoot", Rows.laid_orchard_api_ErrRoot), ("orchard/api.ErrNode", Rows.laid_orchard_api_ErrNode), ("orchard/api.ErrExists", Rows.laid_orchard_api_ErrExists), ("orchard/api.ErrFull", Rows.laid_orchard_api_ErrFull), ("orchard/api.ErrCycle", Rows.laid_orchard_api_ErrCycle), ("orchard/api.ErrQueue", Rows.laid_orchard_api_ErrQueue), ("orchard/api.ErrJoined", Rows.laid_orchard_api_ErrJoined), ("orchard/api.ErrNone", Rows.laid_orchard_api_ErrNone)] [.sentinel, .sentinel, .sentinel, .sentinel, .sentinel, .sentinel, .sentinel, .sentinel, .sentinel] true :=
  Program.laidByTextLater_by_one 180 8 2 (by kernel_rfl) (by kernel_rfl) (by kernel_rfl) (by kernel_rfl) (by kernel_rfl) (by kernel_rfl) (fun _ _ => by kernel_rfl)
theorem noOwnUnsafe : Tryd.pinned.checked.prog.headLifts.contains "ownunsafe" = false := by kernel_rfl
theorem tie : Tryd.prog.laidByTextLater [("orchard/api.ErrArg", Rows.laid_orchard_api_ErrArg), ("orchard/api.ErrRoot", Rows.laid_orchard_api_ErrRoot), ("orchard/api.ErrNode", Rows.laid_orchard_api_ErrNode), ("orchard/api.ErrExists", Rows.laid_orchard_api_ErrExists), ("orchard/api.ErrFull", Rows.laid_orchard_api_ErrFull), ("orchard/api.ErrCycle", Rows.laid_orchard_api_ErrCycle), ("orchard/api.ErrQueue", Rows.laid_orchard_api_ErrQueue), ("orchard/api.ErrJoined", Rows.laid_orchard_api_ErrJoined), ("orchard/api.ErrNone", Rows.laid_orchard_api_ErrNone)] [.sentinel, .sentinel, .sentinel, .sentinel, .sentinel, .sentinel, .sentinel, .sentinel, .sentinel] true :=
  Program.laidByTextLater.sub seatTie1 ["orchard/api.ErrArg", "orchard/api.ErrRoot", "orchard/api.ErrNode", "orchard/api.ErrExists", "orchard/api.ErrFull", "orchard/api.ErrCycle", "orchard/api.ErrQueue", "orchard/api.ErrJoined", "orchard/api.ErrNone"] (by kernel_rfl) (by kernel_rfl)
theorem names_row_tie : Rows.namesRow.laidByTextAt .later Tryd.pinned [.sentinel, .sentinel, .sentinel, .sentinel, .sentinel, .sentinel, .sentinel, .sentinel, .sentinel] true :=
  OpenClaim.laidByTextAt_later rfl rfl tie noOwnUnsafe
theorem tie2 : Tryd.prog.laidByTextLater [("orchard/api.ErrArg", Rows.laid_orchard_api_ErrArg), ("orchard/api.ErrRoot", Rows.laid_orchard_api_ErrRoot), ("orchard/api.ErrNode", Rows.laid_orchard_api_ErrNode), ("orchard/api.ErrExists", Rows.laid_orchard_api_ErrExists), ("orchard/api.ErrFull", Rows.laid_orchard_api_ErrFull), ("orchard/api.ErrCycle", Rows.laid_orchard_api_ErrCycle)] [.sentinel, .sentinel, .sentinel, .sentinel, .sentinel, .sentinel] true :=
  Program.laidByTextLater.sub seatTie1 ["orchard/api.ErrArg", "orchard/api.ErrRoot", "orchard/api.ErrNode", "orchard/api.ErrExists", "orchard/api.ErrFull", "orchard/api.ErrCycle"] (by kernel_rfl) (by kernel_rfl)
theorem walks_row_tie : Rows.walksRow.laidByTextAt .later Tryd.pinned [.sentinel, .sentinel, .sentinel, .sentinel, .sentinel, .sentinel] true :=
  OpenClaim.laidByTextAt_later rfl rfl tie2 noOwnUnsafe
theorem namesUpto_row_tie : Rows.namesUptoRow.laidByTextAt .later Tryd.pinned [.sentinel, .sentinel, .sentinel, .sentinel, .sentinel, .sentinel, .sentinel, .sentinel, .sentinel] true :=
  OpenClaim.laidByTextAt_later rfl rfl tie noOwnUnsafe
theorem walksUpto_row_tie : Rows.walksUptoRow.laidByTextAt .later Tryd.pinned [.sentinel, .sentinel, .sentinel, .sentinel, .sentinel, .sentinel] true :=
  OpenClaim.laidByTextAt_later rfl rfl tie2 noOwnUnsafe
end Go.Proofs.YtbicffldggcdhaaDoor

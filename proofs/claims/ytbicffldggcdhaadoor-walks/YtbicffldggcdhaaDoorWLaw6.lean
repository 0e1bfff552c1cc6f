/-
  The law's one, walked: Find and Len.
-/
import Derived.Test.YtbicffldggcdhaaDoorWLaw5
namespace Go.Proofs.YtbicffldggcdhaaDoor
open Go
section
variable {PT : World → Nat → List Nd → (Nat → Prop) → Prop}
end
end Go.Proofs.YtbicffldggcdhaaDoor

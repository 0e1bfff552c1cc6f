/-
  The law's step, walked, for steps on trees.
-/
import Derived.Test.YtbicffldggcdhaaDoorWLaw6
namespace Go.Proofs.YtbicffldggcdhaaDoor
open Go
section
variable {PT : World → Nat → List Nd → (Nat → Prop) → Prop}
end
end Go.Proofs.YtbicffldggcdhaaDoor

/-
  The law's one, walked: Find and Len.
-/
import Derived.Test.YtoaahegmeneldaaDoorWLaw5
namespace Go.Proofs.YtoaahegmeneldaaDoor
open Go
section
variable {PT : World → Nat → List Nd → (Nat → Prop) → Prop}
end
end Go.Proofs.YtoaahegmeneldaaDoor

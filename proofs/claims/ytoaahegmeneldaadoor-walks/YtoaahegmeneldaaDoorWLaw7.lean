/-
  The law's step, walked, for steps on trees.
-/
import Derived.Test.YtoaahegmeneldaaDoorWLaw6
namespace Go.Proofs.YtoaahegmeneldaaDoor
open Go
section
variable {PT : World → Nat → List Nd → (Nat → Prop) → Prop}
end
end Go.Proofs.YtoaahegmeneldaaDoor

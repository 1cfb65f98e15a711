/-
  Chapter 5: networks copied, in the model (by program, wip/gen/gennetf.py).
-/
import Derived.Test.YthcagdcbifdfeaaNetD2
import Derived.RegionTactic
import Derived.BigQuiet
namespace Go.Proofs.Ythcagdcbifdfeaa
set_option maxRecDepth 100000
open Go.RowKit

theorem link_flat : ∀ x, linkC x = ([x.a, x.b] : List Int).flatMap fun y => [Dat.int y] := fun _ => rfl

end Go.Proofs.Ythcagdcbifdfeaa

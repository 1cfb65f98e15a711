/-
  Chapter 5: Healed, of the program (by program, wip/gen/gennetm.py).
-/
import Derived.Test.YthcagdcbifdfeaaNetI3
import Derived.Test.YthcagdcbifdfeaaNetI2
import Derived.Test.YthcagdcbifdfeaaNetC1
import Derived.Test.YthcagdcbifdfeaaNetC4
import Derived.Test.YthcagdcbifdfeaaNetC5
import Derived.Test.YthcagdcbifdfeaaNetE1
import Derived.Test.YthcagdcbifdfeaaCls
import Derived.RegionTactic
import Derived.BigQuiet
namespace Go.Proofs.Ythcagdcbifdfeaa
set_option maxRecDepth 100000
open Go.RowKit

def healNet (t : NetM) (k : Nat) : NetM := ⟨t.flight, t.cuts.eraseIdx k⟩
def healedM (t : NetM) (x y : Int) : NetM × Bool := if netOk t = true then (if isCut t.cuts (linkOf x y) = true then (healNet t (eqIx t.cuts (linkOf x y)), true) else (t, false)) else (zeroN, false)
theorem healNet_sz (t : NetM) (k : Nat) : (healNet t k).sz ≤ t.sz := by
  have h1 : (t.cuts.eraseIdx k).length ≤ t.cuts.length := (List.eraseIdx_sublist ..).length_le
  unfold NetM.sz healNet linkSz
  simp only
  omega
theorem healedM_sz (t : NetM) (x y : Int) (h : t.sz ≤ 1048576) : (healedM t x y).1.sz ≤ 1048577 := by
  unfold healedM
  split
  · split
    · have := healNet_sz t (eqIx t.cuts (linkOf x y))
      simp only
      omega
    · simp only
      omega
  · decide

end Go.Proofs.Ythcagdcbifdfeaa

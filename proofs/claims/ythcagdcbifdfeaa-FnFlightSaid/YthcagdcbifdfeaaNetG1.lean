/-
  Chapter 5: CutOff, of the model (by program, wip/gen/gennetn.py).
-/
import Derived.Test.YthcagdcbifdfeaaNetH3
import Derived.Test.YthcagdcbifdfeaaParts
import Derived.Test.YthcagdcbifdfeaaNetC2
import Derived.Test.YthcagdcbifdfeaaNetC3
import Derived.Test.YthcagdcbifdfeaaNetC4
import Derived.RegionTactic
import Derived.BigQuiet
namespace Go.Proofs.Ythcagdcbifdfeaa
set_option maxRecDepth 100000
open Go.RowKit

def cutNet (t : NetM) (l : LinkM) : NetM := ⟨t.flight, t.cuts.take (lowN t.cuts l) ++ [l] ++ t.cuts.drop (lowN t.cuts l)⟩
def cutOffM (t : NetM) (x y : Int) : NetM × Bool :=
  if netOk t = true then (if twoB x y = true then (if isCut t.cuts (linkOf x y) = true then (t, false) else (cutNet t (linkOf x y), true)) else (t, false)) else (zeroN, false)
theorem lowN_le (c : List LinkM) (l : LinkM) : lowN c l ≤ c.length := firstNot_le _ c
theorem cutNet_sz (t : NetM) (l : LinkM) : (cutNet t l).sz ≤ t.sz + 1 := by
  have h := lowN_le t.cuts l
  unfold NetM.sz cutNet linkSz
  simp only [List.length_append, List.length_take, List.length_drop, List.length_singleton]
  omega
theorem cutOffM_sz (t : NetM) (x y : Int) (h : t.sz ≤ 1048576) : (cutOffM t x y).1.sz ≤ 1048577 := by
  unfold cutOffM
  split
  · split
    · split
      · simp only
        omega
      · have := cutNet_sz t (linkOf x y)
        simp only
        omega
    · simp only
      omega
  · decide

end Go.Proofs.Ythcagdcbifdfeaa

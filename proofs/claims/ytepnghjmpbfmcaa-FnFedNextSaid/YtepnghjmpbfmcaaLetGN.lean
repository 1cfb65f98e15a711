/-
  Chapter 11: rows of feeds as mathematics (by program, wip/gen/genletg.py).
-/
import Derived.Test.YtepnghjmpbfmcaaLetF
namespace Go.Proofs.Ytepnghjmpbfmcaa
set_option maxRecDepth 100000
open Go.RowKit

theorem entsNs_nil : entsNs [] = [] := rfl
theorem entsNs_snoc (l : List EntM) (x : EntM) : entsNs (l ++ [x]) = entsNs l ++ entNs x := by
  unfold entsNs
  rw [List.flatMap_append, List.flatMap_singleton]
theorem entsB_at {l : List EntM} (h : entsB l = true) {j : Nat} (hj : j < l.length) : entB l[j] = true := by
  have h9 := ((entsB_iff l).1 h).2 j hj
  rw [entsAt_eq hj, Bool.and_eq_true] at h9
  exact h9.1
theorem feedNs_len {y0 y1 : Int} {l : List EntM} (h : l.length ≤ 3) : (feedNs ⟨y0, y1, l⟩).length ≤ 29 := by
  have h9 := entsNs_len l
  unfold feedNs
  rw [List.length_append, h9]
  simp
  omega

end Go.Proofs.Ytepnghjmpbfmcaa

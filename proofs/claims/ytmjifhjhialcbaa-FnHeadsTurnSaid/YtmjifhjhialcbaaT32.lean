/- Parts of my texts: TwoS3. -/
import Derived.Test.YtmjifhjhialcbaaT29
namespace Go.Proofs.Ytmjifhjhialcbaa
set_option maxRecDepth 100000
set_option linter.unusedVariables false
open Go.RowKit
theorem bothWrote_bad {t : TwoM} (h : twoOk t = false) (i : Int) (r : List Int) : (bothWrote t i r).2 = false := by simp [bothWrote, h]
theorem bothWrote_true {t : TwoM} {i : Int} {r : List Int} (h : (bothWrote t i r).2 = true) : twoOk t = true := by
 cases hok : twoOk t
 · rw [bothWrote_bad hok] at h; cases h
 · rfl
end Go.Proofs.Ytmjifhjhialcbaa

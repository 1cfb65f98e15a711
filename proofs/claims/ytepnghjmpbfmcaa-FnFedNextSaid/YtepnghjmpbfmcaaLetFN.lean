/-
  Chapter 11: valid feeds as mathematics (by program, wip/gen/genletf.py).
-/
import Derived.Test.YtepnghjmpbfmcaaLetF
namespace Go.Proofs.Ytepnghjmpbfmcaa
set_option maxRecDepth 100000
open Go.RowKit

theorem feedOkB_mid {x0 x1 : Int} {l : List EntM} (h1 : 0 ≤ x0 ∧ x0 ≤ x1) (h2 : x1 ≤ 2000) (h3 : l.length ≤ 3) (h4 : entsB l = true) : feedOkB ⟨x0, x1, l⟩ = feedIn ⟨x0, x1, l⟩ := by
  unfold feedOkB
  rw [(inB_iff x1 0 2000).2 (by omega), (inB_iff x0 0 x1).2 h1, decide_eq_true h3, h4]
  rfl
theorem feedOkB_not {x0 x1 : Int} {l : List EntM} (h : ¬ ((0 ≤ x0 ∧ x0 ≤ x1) ∧ x1 ≤ 2000 ∧ l.length ≤ 3 ∧ entsB l = true)) : feedOkB ⟨x0, x1, l⟩ = false := by
  rw [Bool.eq_false_iff]
  intro h9
  obtain ⟨a, b, c, d, _⟩ := (feedOkB_iff _).1 h9
  exact h ⟨b, a.2, c, d⟩
theorem feedIn_nil {x0 x1 : Int} {l : List EntM} (h : l.length = 0) : feedIn ⟨x0, x1, l⟩ = true := by
  unfold feedIn
  rw [decide_eq_true h]
  rfl
theorem feedIn_some {x0 x1 : Int} {l : List EntM} {k : Nat} (h : l.length = k + 1) (h0 : 0 < l.length) (hk : k < l.length) : feedIn ⟨x0, x1, l⟩ = (decide (x0 < l[0].idx) && decide (l[k].idx ≤ x1)) := by
  unfold feedIn
  simp only
  rw [decide_eq_false (by omega), Bool.false_or, egetD h0, show l.length - 1 = k by omega, egetD hk]

end Go.Proofs.Ytepnghjmpbfmcaa

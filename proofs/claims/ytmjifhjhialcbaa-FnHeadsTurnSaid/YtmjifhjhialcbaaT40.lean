/- Parts of my texts: HeadS7. -/
import Derived.Test.YtmjifhjhialcbaaT36
namespace Go.Proofs.Ytmjifhjhialcbaa
set_option maxRecDepth 100000
set_option linter.unusedVariables false
open Go.RowKit
theorem rightAt_len (t : TwoM) (i : Int) : (rightAt t i).length ≤ 2 := by
 unfold rightAt
 split
 · rw [List.length_append]
   have h1 : (if (rightOf t.a i).2 = true then [(rightOf t.a i).1] else []).length ≤ 1 := by split <;> simp
   have h2 : (if (rightOf t.b i).2 = true ∧ ¬ ((rightOf t.a i).2 = true ∧ (rightOf t.a i).1 = (rightOf t.b i).1) then [(rightOf t.b i).1] else []).length ≤ 1 := by split <;> simp
   omega
 · simp
theorem bestTo_zero (q : Int) (s : HeadM × Bool) (l : List (List Int)) : bestTo q s l 0 = s := by
 unfold bestTo
 rw [List.take_zero]
 rfl
theorem rowHeadM_ok {r : List Int} (h : (rowHeadM r).2 = true) : headOkB (rowHeadM r).1 = true := by
 unfold rowHeadM at h ⊢
 split
 next ht =>
  rw [if_pos ht] at h
  split
  next hk => exact hk
  next hk => rw [if_neg hk] at h; cases h
 next ht => rw [if_neg ht] at h; cases h
theorem rowHead_num {r : List Int} {x : HeadM} {b : Bool} (h : rowHeadM r = (x, b)) (hb : b = true) : 0 ≤ x.num ∧ x.num ≤ 2000 := by
 subst hb
 have h1 := rowHeadM_ok (r := r) (by rw [h])
 rw [h] at h1
 have h2 := (headOkB_iff x).1 h1
 omega
theorem Has.headT {w : World} {base : Nat} {t : HeadM} {v0 v1 v2 v3 : Value} (h : Has w base t.cells [v0, v1, v2, v3]) : v0 = .int .i64 t.num ∧ v1 = .int .i64 t.base ∧ v2 = .int .i64 t.tm ∧ Has w base [mrkD t.seen] [v3] := by
 obtain ⟨fp, o, nd, ge⟩ := h
 obtain ⟨_, _, _, e0, e1, e2, _, _⟩ := o.rd.headT
 obtain ⟨f3, rfl, o3⟩ := Ow.headT o
 rw [List.append_nil] at nd ge
 exact ⟨e0, e1, e2, f3, o3, nd, ge⟩
end Go.Proofs.Ytmjifhjhialcbaa

/- Parts of my texts: KS6. -/
import Derived.Test.YtmjifhjhialcbaaU19
namespace Go.Proofs.Ytmjifhjhialcbaa
set_option maxRecDepth 100000
set_option linter.unusedVariables false
open Go.RowKit
theorem has_kept_nil {w : World} {base : Nat} {l : List (List Int)} {v : Value} (h : Has w base [keptD l] [v]) : Has w base [keptD l, waitD []] [v, .slice none 0 0] := by
 obtain ⟨fp, ho, hn, hg⟩ := h
 have := ho.append (ow_nil_wait w)
 rw [List.append_nil] at this
 exact ⟨fp, this, hn, hg⟩
theorem fell_keep {all : Bool} {fate : Int} {k : List (List Int)} {X : Nat} {r : List Int} (h : all = true ∨ fate = 1) : fell all fate k ((X : Int), r) = k.set X r := by
 unfold fell; rw [if_pos h]; rfl
theorem fell_torn {fate : Int} {k : List (List Int)} {X : Nat} {r : List Int} (h : fate = 2) : fell false fate k ((X : Int), r) = k.set X (torn r (k.getD X [])) := by
 unfold fell; rw [if_neg (by rintro (h1 | h1); cases h1; omega), if_pos h]; rfl
theorem fell_lost {fate : Int} {k : List (List Int)} {p : Int × List Int} (h1 : fate ≠ 1) (h2 : fate ≠ 2) : fell false fate k p = k := by
 unfold fell; rw [if_neg (by rintro (h | h); cases h; exact h1 h), if_neg h2]
end Go.Proofs.Ytmjifhjhialcbaa
namespace Go.Proofs.Ytmjifhjhialcbaa
set_option maxRecDepth 100000
open Go.RowKit
end Go.Proofs.Ytmjifhjhialcbaa

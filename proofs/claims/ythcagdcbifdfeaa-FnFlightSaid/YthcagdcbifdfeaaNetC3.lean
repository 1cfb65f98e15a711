/-
  Chapter 5: validity of networks, in the model (by program, wip/gen/gennetd.py).
-/
import Derived.Test.YthcagdcbifdfeaaNetM
import Derived.Test.YthcagdcbifdfeaaCls
import Derived.RegionTactic
import Derived.BigQuiet
namespace Go.Proofs.Ythcagdcbifdfeaa
set_option maxRecDepth 100000
open Go.RowKit

theorem sNodeQ {x : Int} {w : World} {v : Bool} (h : nodeB x = v) : Calls Try.prog 87 #[.int .i64 x] w fun e w' => e = .returned (.bool v) ∧ w' = w :=
  (sNode_any x w).mono fun _ _ ⟨h1, h2⟩ => ⟨h1.trans (by rw [h]), h2.symm⟩
theorem linkB_1 {x0 x1 : Int} (h : nodeB x0 = false) : linkB ⟨x0, x1⟩ = false := by
  unfold linkB
  rw [h, Bool.false_and]
theorem linkB_2 {x0 x1 : Int} (h : nodeB x1 = false) : linkB ⟨x0, x1⟩ = false := by
  unfold linkB
  rw [h, Bool.false_and, Bool.and_false]
theorem linkB_3 {x0 x1 : Int} (h : ¬ x0 < x1) : linkB ⟨x0, x1⟩ = false := by
  unfold linkB
  rw [decide_eq_false h, Bool.and_false, Bool.and_false]
theorem linkB_4 {x0 x1 : Int} (h0 : nodeB x0 = true) (h1 : nodeB x1 = true) (h : x0 < x1) : linkB ⟨x0, x1⟩ = true := by
  unfold linkB
  rw [h0, h1, decide_eq_true h]
  rfl

end Go.Proofs.Ythcagdcbifdfeaa

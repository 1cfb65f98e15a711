/-
  NewKept answers as its model, every field, in memory of its own: for every valid argument; every order of evaluation.
-/
import Derived.Test.YtecihkkagpbkdaaK1
import Derived.Test.YtecihkkagpbkdaaK2
import Derived.Test.YtecihkkagpbkdaaK3
import Derived.Test.YtecihkkagpbkdaaK4
import Derived.Test.YtecihkkagpbkdaaK5
import Derived.Test.YtecihkkagpbkdaaK6
import Derived.Test.YtecihkkagpbkdaaK7
import Derived.Test.YtecihkkagpbkdaaK8
import Derived.Test.YtecihkkagpbkdaaK9
import Derived.Test.YtecihkkagpbkdaaK10
import Derived.Test.YtecihkkagpbkdaaK11
import Derived.Test.YtecihkkagpbkdaaK12
import Derived.Test.YtecihkkagpbkdaaK13
import Derived.Test.YtecihkkagpbkdaaK14
import Derived.Test.YtecihkkagpbkdaaK15
import Derived.Test.YtecihkkagpbkdaaK16
import Derived.Test.YtecihkkagpbkdaaK17
import Derived.Test.YtecihkkagpbkdaaK18
import Derived.Test.YtecihkkagpbkdaaK19
import Derived.Test.YtecihkkagpbkdaaK20
import Derived.Test.YtecihkkagpbkdaaK21
import Derived.Test.YtecihkkagpbkdaaK22
import Derived.Test.YtecihkkagpbkdaaK23
import Derived.Test.YtecihkkagpbkdaaK24
import Derived.Test.YtecihkkagpbkdaaK25
import Derived.Test.YtecihkkagpbkdaaK26
import Derived.Test.YtecihkkagpbkdaaK27
import Derived.Test.YtecihkkagpbkdaaK28
import Derived.Test.YtecihkkagpbkdaaK29
import Derived.Test.YtecihkkagpbkdaaK30
import Derived.Test.YtecihkkagpbkdaaK31
import Derived.Test.YtecihkkagpbkdaaK32
import Derived.Test.YtecihkkagpbkdaaK33
import Derived.Test.YtecihkkagpbkdaaK34
import Derived.Test.YtecihkkagpbkdaaK35
import Derived.Test.YtecihkkagpbkdaaK36
import Derived.Test.YtecihkkagpbkdaaK37
import Derived.WalkKit
import Derived.ProofKit
import Derived.OpenShut
import Derived.ShutString
import Derived.ChangeOld
import Derived.Below
namespace Go.Proofs.Ytecihkkagpbkdaa.fnExactNewKept
open Go.ChangeShapes Go.WideShapes Go.ChangeAt Go.RowKit
set_option linter.unusedVariables false

theorem own : ownKnob Try.prog.godebug = none := by kernel_rfl
theorem laidOut : laidOutB Try.prog = true := by kernel_rfl

set_option maxRecDepth 100000 in
theorem lifted (os : Os) (started : os.Started) (H : Type) (enc : TypeId × Value → H) :
    ReturnsInHanded {} Try.checked os 4 .any (Rows.fnExactNewKeptSpec.pre6 enc Try.prog Try.f4 Rows.fnExactNewKeptRow.domain false) (Rows.fnExactNewKeptSpec.post enc Try.prog Try.f4 false true false false) := by
  refine returnsInHanded_of_change (C := Try.checked) own started (by kernel_rfl) Try.func4
    (ChangeSpec.witness6 (enc := enc) (C := Try.checked) false ⟨#[], #[], []⟩ 8 (by kernel_rfl) (by kernel_rfl) (by kernel_rfl) (by kernel_rfl)) ?_
  intro W base args ds gs before hval0 hW hcnd _
  have hval : ∀ (j : Nat) t v, Try.f4.params[j]? = some t → args[j]? = some v → Value.okWide Try.prog W .any base t v := hval0
  have hW' := hW
  obtain ⟨p, q, hA0, hV, rfl, hfz, hnd⟩ := hW
  have hA : DataW.TrodAll enc Try.prog W 0 (fun _ => true) true Try.f4.params.toList args.toList ds p := hA0
  rw [Try.params4] at hA hval
  obtain ⟨ha0, rfl, rfl⟩ := trodAll_nil hA
  obtain rfl : args = #[] := by cases args; simp_all
  obtain ⟨rfl, rfl⟩ := trodVars_none hV
  clear hA0 hval0
  refine (lawNewKept newKeptM newKeptM_sz sNewKept_c iNewKept_c W).mono fun e W' ⟨he, bel⟩ => ?_
  subst he
  exact ⟨_, rfl, _, _, _, [], _, [], hW', trodAll_mk1 (shut_bool Try.underlying4 _), trodAll_mk0, rfl, bel.frame _, fun h => by cases h⟩

theorem proved : Rows.FnExactNewKeptSaid :=
  OpenClaim.holds_of_wide 4 Try.f4 rfl rfl rfl rfl rfl rfl rfl ⟨rfl, rfl, rfl, rfl, rfl⟩ rfl rfl rfl rfl rfl (by kernel_rfl) Try.func4 (by kernel_rfl)
    (of_decide_eq_true (by kernel_rfl)) (by unfold Func.isWrapper; first | (rw [if_pos (by decide +kernel)]; kernel_rfl) | (rw [if_neg (by decide +kernel)]; exact ⟨rfl, rfl⟩))
    (fun os started H enc _ => lifted os started H enc)
#print axioms proved
end Go.Proofs.Ytecihkkagpbkdaa.fnExactNewKept

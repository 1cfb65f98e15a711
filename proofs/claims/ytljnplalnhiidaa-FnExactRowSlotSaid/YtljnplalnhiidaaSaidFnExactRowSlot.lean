/-
  At every row RowSlot answers as its model, every field, and writes into no argument: for every valid argument; every order of evaluation.
-/
import Derived.Test.YtljnplalnhiidaaK1
import Derived.Test.YtljnplalnhiidaaK2
import Derived.Test.YtljnplalnhiidaaK3
import Derived.Test.YtljnplalnhiidaaK4
import Derived.Test.YtljnplalnhiidaaK5
import Derived.Test.YtljnplalnhiidaaK6
import Derived.Test.YtljnplalnhiidaaK7
import Derived.Test.YtljnplalnhiidaaK8
import Derived.Test.YtljnplalnhiidaaK9
import Derived.Test.YtljnplalnhiidaaK10
import Derived.Test.YtljnplalnhiidaaK11
import Derived.Test.YtljnplalnhiidaaK12
import Derived.Test.YtljnplalnhiidaaK13
import Derived.Test.YtljnplalnhiidaaK14
import Derived.Test.YtljnplalnhiidaaK15
import Derived.Test.YtljnplalnhiidaaK16
import Derived.Test.YtljnplalnhiidaaK17
import Derived.Test.YtljnplalnhiidaaK18
import Derived.Test.YtljnplalnhiidaaK19
import Derived.Test.YtljnplalnhiidaaK20
import Derived.Test.YtljnplalnhiidaaK21
import Derived.Test.YtljnplalnhiidaaK22
import Derived.Test.YtljnplalnhiidaaK23
import Derived.Test.YtljnplalnhiidaaK24
import Derived.Test.YtljnplalnhiidaaK25
import Derived.Test.YtljnplalnhiidaaK26
import Derived.Test.YtljnplalnhiidaaK27
import Derived.Test.YtljnplalnhiidaaK28
import Derived.Test.YtljnplalnhiidaaK29
import Derived.Test.YtljnplalnhiidaaK30
import Derived.Test.YtljnplalnhiidaaK32
import Derived.Test.YtljnplalnhiidaaK33
import Derived.WalkKit
import Derived.ProofKit
import Derived.OpenShut
import Derived.ShutString
import Derived.ChangeOld
import Derived.Below
namespace Go.Proofs.Ytljnplalnhiidaa.fnExactRowSlot
open Go.ChangeShapes Go.WideShapes Go.ChangeAt Go.RowKit
set_option linter.unusedVariables false

theorem own : ownKnob Try.prog.godebug = none := by kernel_rfl
theorem laidOut : laidOutB Try.prog = true := by kernel_rfl

set_option maxRecDepth 100000 in
theorem lifted (os : Os) (started : os.Started) (H : Type) (enc : TypeId × Value → H) :
    ReturnsInHanded {} Try.checked os 7 .any (Rows.fnExactRowSlotSpec.pre6 enc Try.prog Try.f7 Rows.fnExactRowSlotRow.domain false) (Rows.fnExactRowSlotSpec.post enc Try.prog Try.f7 false true false false) := by
  refine returnsInHanded_of_change (C := Try.checked) own started (by kernel_rfl) Try.func7
    (ChangeSpec.witness6 (enc := enc) (C := Try.checked) false ⟨#[], #[.slice none 0 0], []⟩ 8 (by kernel_rfl) (by kernel_rfl) (by kernel_rfl) (by kernel_rfl)) ?_
  intro W base args ds gs before hval0 hW hcnd _
  have hval : ∀ (j : Nat) t v, Try.f7.params[j]? = some t → args[j]? = some v → Value.okWide Try.prog W .any base t v := hval0
  have hW' := hW
  obtain ⟨p, q, hA0, hV, rfl, hfz, hnd⟩ := hW
  have hA : DataW.TrodAll enc Try.prog W 0 (fun _ => true) true Try.f7.params.toList args.toList ds p := hA0
  rw [Try.params7] at hA hval
  obtain ⟨v0, vs0, d0, ds0, p0, q0, hargs, rfl, rfl, h0, r0⟩ := trodAll_cons hA
  obtain ⟨rfl, rfl, rfl⟩ := trodAll_nil r0
  obtain rfl : args = #[v0] := by cases args; simp_all
  obtain ⟨rfl, rfl⟩ := trodVars_none hV
  have k0 := h0
  have lt0 : ∀ x ∈ p0, x.block < W.heap.size := by obtain ⟨m, hm⟩ := k0; exact DataW.trod_lt m _ _ _ hm
  obtain ⟨Aa0_0, na0_0, ca0_0, d0, rfl, rd0⟩ := open_irow (hval 0 33 v0 rfl rfl) h0
  clear hA0 hval0
  refine (lawRowSlot rowSlotM sRowSlot_c.at_ iRowSlot_c.at_ Aa0_0 na0_0 ca0_0 d0 W rd0).mono fun e W' ⟨he, bel⟩ => ?_
  subst he
  exact ⟨_, rfl, _, _, _, [], _, [], hW', trodAll_mk1 (shut_bool Try.underlying4 _), (trodAll_cons_mk (Below.trod laidOut (by kernel_rfl) (of_decide_eq_true (by kernel_rfl)) k0 bel lt0) trodAll_mk0), rfl, bel.frame _, fun h => by cases h⟩

theorem proved : Rows.FnExactRowSlotSaid :=
  OpenClaim.holds_of_wide 7 Try.f7 rfl rfl rfl rfl rfl rfl rfl ⟨rfl, rfl, rfl, rfl, rfl⟩ rfl rfl rfl rfl rfl (by kernel_rfl) Try.func7 (by kernel_rfl)
    (of_decide_eq_true (by kernel_rfl)) (by unfold Func.isWrapper; first | (rw [if_pos (by decide +kernel)]; kernel_rfl) | (rw [if_neg (by decide +kernel)]; exact ⟨rfl, rfl⟩))
    (fun os started H enc _ => lifted os started H enc)
#print axioms proved
end Go.Proofs.Ytljnplalnhiidaa.fnExactRowSlot

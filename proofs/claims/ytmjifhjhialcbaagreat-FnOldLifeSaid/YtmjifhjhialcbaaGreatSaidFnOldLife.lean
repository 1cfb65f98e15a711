/-
  At every slice of bytes: entries that the law draws from them and that were lost in one crash do not come back after another one, and what stands behind the recovered ones was written later: for every input; every order of evaluation.
-/
import Derived.Test.YtmjifhjhialcbaaGreatL1
import Derived.Test.YtmjifhjhialcbaaGreatL2
import Derived.Test.YtmjifhjhialcbaaGreatL3
import Derived.Test.YtmjifhjhialcbaaGreatL4
import Derived.Test.YtmjifhjhialcbaaGreatL5
import Derived.Test.YtmjifhjhialcbaaGreatL6
import Derived.Test.YtmjifhjhialcbaaGreatL7
import Derived.Test.YtmjifhjhialcbaaGreatL8
import Derived.Test.YtmjifhjhialcbaaGreatL9
import Derived.Test.YtmjifhjhialcbaaGreatL10
import Derived.Test.YtmjifhjhialcbaaGreatL11
import Derived.Test.YtmjifhjhialcbaaGreatL12
import Derived.Test.YtmjifhjhialcbaaGreatL13
import Derived.Test.YtmjifhjhialcbaaGreatL14
import Derived.Test.YtmjifhjhialcbaaGreatL15
import Derived.Test.YtmjifhjhialcbaaGreatL16
import Derived.Test.YtmjifhjhialcbaaGreatL17
import Derived.Test.YtmjifhjhialcbaaGreatL18
import Derived.Test.YtmjifhjhialcbaaGreatL19
import Derived.Test.YtmjifhjhialcbaaGreatL20
import Derived.Test.YtmjifhjhialcbaaGreatL21
import Derived.Test.YtmjifhjhialcbaaGreatL22
import Derived.Test.YtmjifhjhialcbaaGreatL23
import Derived.Test.YtmjifhjhialcbaaGreatL24
import Derived.Test.YtmjifhjhialcbaaGreatL25
import Derived.Test.YtmjifhjhialcbaaGreatL26
import Derived.Test.YtmjifhjhialcbaaGreatL27
import Derived.Test.YtmjifhjhialcbaaGreatL28
import Derived.Test.YtmjifhjhialcbaaGreatL29
import Derived.Test.YtmjifhjhialcbaaGreatL30
import Derived.Test.YtmjifhjhialcbaaGreatL31
import Derived.Test.YtmjifhjhialcbaaGreatL32
import Derived.Test.YtmjifhjhialcbaaGreatL33
import Derived.Test.YtmjifhjhialcbaaGreatL34
import Derived.Test.YtmjifhjhialcbaaGreatL35
import Derived.Test.YtmjifhjhialcbaaGreatL36
import Derived.Test.YtmjifhjhialcbaaGreatL37
import Derived.Test.YtmjifhjhialcbaaGreatL38
import Derived.Test.YtmjifhjhialcbaaGreatL39
import Derived.Test.YtmjifhjhialcbaaGreatL40
import Derived.WalkKit
import Derived.ProofKit
import Derived.OpenShut
import Derived.ShutString
import Derived.ChangeOld
import Derived.Below
namespace Go.Proofs.YtmjifhjhialcbaaGreat.fnOldLife
open Go.ChangeShapes Go.WideShapes Go.ChangeAt Go.RowKit
open Go.ChangeMaps (open_string shut_string)
set_option linter.unusedVariables false

theorem isRow_brow {w : World} {a : Option Addr} {len cap : Nat} {zs : List Int} (h : IsRow .u8 w a len cap zs) : BRow w w.heap.size a len := by
  rcases h with ⟨rfl, rfl, rfl, rfl⟩ | ⟨x, rfl, hl, hm, hz, hcell, hwz⟩
  · exact fun h => absurd h (by omega)
  · intro hn
    obtain ⟨b, off, spot⟩ := x
    have hc := hcell 0 (by omega)
    have hspot : spot = none := by simpa [Addr.add] using World.cell?_spot hc
    subst hspot
    refine ⟨b, off, rfl, by simpa [Addr.add] using lc hc, fun j hj => ?_⟩
    have hj' := hcell j (by omega)
    have e : (⟨b, off, none⟩ : Addr).add j = ⟨b, off + j, none⟩ := by
      unfold Addr.add
      by_cases h0 : j = 0 <;> simp [h0]
    rw [e] at hj'
    have hmem : zs.getD j 0 ∈ zs := by simp [List.getD, List.getElem?_eq_getElem (show j < zs.length by omega)]
    have hw := bounds_u8 (hwz _ hmem)
    exact ⟨_, hj', hw.1, by omega⟩

theorem isRow_len {k : IntKind} {w : World} {a : Option Addr} {len cap : Nat} {zs : List Int} (h : IsRow k w a len cap zs) : len ≤ maxLen := by
  rcases h with ⟨_, rfl, _⟩ | ⟨x, _, hl, hm, _⟩
  · exact Nat.zero_le _
  · exact Nat.le_trans hl hm

theorem own : ownKnob Tryz.prog.godebug = none := by kernel_rfl
theorem laidOut : laidOutB Tryz.prog = true := by kernel_rfl

theorem walk (a0 : Option Addr) (len0 cap0 : Nat) (z0 : List Int) (w : World) (w0 : IsRow .u8 w a0 len0 cap0 z0) :
    Calls Tryz.prog 4 #[.slice a0 len0 cap0] w fun e w' => e = .returned (.bool true) ∧ Below w.heap.size w w' :=
  lawOldLife_i a0 len0 cap0 w (isRow_brow w0) (isRow_len w0)

set_option maxRecDepth 100000 in
theorem lifted (os : Os) (started : os.Started) (H : Type) (enc : TypeId × Value → H) :
    ReturnsInHanded {} Tryz.checked os 4 .any (Rows.fnOldLifeSpec.pre6 enc Tryz.prog Tryz.f4 Rows.fnOldLifeRow.domain false) (Rows.fnOldLifeSpec.post enc Tryz.prog Tryz.f4 false true false false) := by
  refine returnsInHanded_of_change (C := Tryz.checked) own started (by kernel_rfl) Tryz.func4
    (ChangeSpec.witness6 (enc := enc) (C := Tryz.checked) false ⟨#[], #[.slice none 0 0], []⟩ 8 (by kernel_rfl) (by kernel_rfl) (by kernel_rfl) (by kernel_rfl)) ?_
  intro W base args ds gs before hval0 hW hcnd _
  have hval : ∀ (j : Nat) t v, Tryz.f4.params[j]? = some t → args[j]? = some v → Value.okWide Tryz.prog W .any base t v := hval0
  have hW' := hW
  obtain ⟨p, q, hA0, hV, rfl, hfz, hnd⟩ := hW
  have hA : DataW.TrodAll enc Tryz.prog W 0 (fun _ => true) true Tryz.f4.params.toList args.toList ds p := hA0
  rw [Tryz.params4] at hA hval
  obtain ⟨v0, vs0, d0, ds0, p0, q0, hargs, rfl, rfl, h0, r0⟩ := trodAll_cons hA
  obtain ⟨rfl, rfl, rfl⟩ := trodAll_nil r0
  obtain rfl : args = #[v0] := by cases args; simp_all
  obtain ⟨rfl, rfl⟩ := trodVars_none hV
  obtain ⟨a0, len0, cap0, rfl⟩ := okWide_slice Tryz.underlying22 (hval 0 22 v0 rfl rfl)
  have k0 := h0
  have lt0 : ∀ x ∈ p0, x.block < W.heap.size := by obtain ⟨m, hm⟩ := k0; exact DataW.trod_lt m _ _ _ hm
  obtain ⟨z0, w0⟩ : ∃ zs, IsRow .u8 W a0 len0 cap0 zs := by
    obtain ⟨fuel, hf⟩ := h0
    rcases open_ints Tryz.underlying22 Tryz.underlying5 (by kernel_rfl) hf with ⟨hcs, _⟩ | ⟨x, l, c, zs, hcs, _, hl, hm, hz, _, hcell, hwz⟩
    · simp [Value.cells] at hcs
      obtain ⟨rfl, rfl, rfl⟩ := hcs
      exact ⟨[], .inl ⟨rfl, rfl, rfl, rfl⟩⟩
    · simp [Value.cells] at hcs
      obtain ⟨rfl, rfl, rfl⟩ := hcs
      exact ⟨zs, .inr ⟨_, rfl, hl, hm, by simpa using hz, hcell, hwz⟩⟩
  clear hA0 hval0
  refine (walk a0 len0 cap0 z0 W w0).mono fun e W' ⟨he, bel⟩ => ?_
  subst he
  exact ⟨_, rfl, _, _, _, [], _, [], hW', trodAll_mk1 (shut_bool Tryz.underlying4 _), (trodAll_cons_mk (Below.trod laidOut (by kernel_rfl) (of_decide_eq_true (by kernel_rfl)) k0 bel lt0) trodAll_mk0), rfl, bel.frame _, fun h => by cases h⟩

theorem over : Rows.fnOldLifeRow.holds Tryz.pinned (OpenSpec.ofChange Rows.fnOldLifeSpec) :=
  OpenClaim.holds_of_wide 4 Tryz.f4 rfl rfl rfl rfl rfl rfl rfl ⟨rfl, rfl, rfl, rfl, rfl⟩ rfl rfl rfl rfl rfl (by kernel_rfl) Tryz.func4 (by kernel_rfl)
    (of_decide_eq_true (by kernel_rfl)) (by unfold Func.isWrapper; first | (rw [if_pos (by decide +kernel)]; kernel_rfl) | (rw [if_neg (by decide +kernel)]; exact ⟨rfl, rfl⟩))
    (fun os started H enc _ => lifted os started H enc)

theorem proved : Rows.FnOldLifeSaid := over
#print axioms proved
end Go.Proofs.YtmjifhjhialcbaaGreat.fnOldLife

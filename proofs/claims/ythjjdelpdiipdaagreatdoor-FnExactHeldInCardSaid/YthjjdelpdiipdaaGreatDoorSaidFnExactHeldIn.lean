/-
  At every node HeldIn answers as its model, in memory of its own, and writes into no argument, when impl.errNode holds what the program's text lays: for every valid argument; every order of evaluation.
-/
import Derived.Test.YthjjdelpdiipdaaGreatDoorMX1
import Derived.Test.YthjjdelpdiipdaaGreatDoorMX2
import Derived.Test.YthjjdelpdiipdaaGreatDoorMX3
import Derived.Test.YthjjdelpdiipdaaGreatDoorMX4
import Derived.Test.YthjjdelpdiipdaaGreatDoorMX5
import Derived.Test.YthjjdelpdiipdaaGreatDoorMX6
import Derived.Test.YthjjdelpdiipdaaGreatDoorMX7
import Derived.Test.YthjjdelpdiipdaaGreatDoorMX8
import Derived.Test.YthjjdelpdiipdaaGreatDoorMX9
import Derived.Test.YthjjdelpdiipdaaGreatDoorMX10
import Derived.Test.YthjjdelpdiipdaaGreatDoorMX11
import Derived.Test.YthjjdelpdiipdaaGreatDoorMX12
import Derived.Test.YthjjdelpdiipdaaGreatDoorMX13
import Derived.Test.YthjjdelpdiipdaaGreatDoorMX14
import Derived.Test.YthjjdelpdiipdaaGreatDoorMX15
import Derived.Test.YthjjdelpdiipdaaGreatDoorMX16
import Derived.Test.YthjjdelpdiipdaaGreatDoorMX17
import Derived.Test.YthjjdelpdiipdaaGreatDoorMX18
import Derived.Test.YthjjdelpdiipdaaGreatDoorMX19
import Derived.Test.YthjjdelpdiipdaaGreatDoorMX20
import Derived.Test.YthjjdelpdiipdaaGreatDoorMX21
import Derived.Test.YthjjdelpdiipdaaGreatDoorMX22
import Derived.Test.YthjjdelpdiipdaaGreatDoorMX23
import Derived.Test.YthjjdelpdiipdaaGreatDoorMX24
import Derived.Test.YthjjdelpdiipdaaGreatDoorMX25
import Derived.Test.YthjjdelpdiipdaaGreatDoorMX26
import Derived.Test.YthjjdelpdiipdaaGreatDoorMX27
import Derived.Test.YthjjdelpdiipdaaGreatDoorMX28
import Derived.Test.YthjjdelpdiipdaaGreatDoorMX29
import Derived.Test.YthjjdelpdiipdaaGreatDoorMX30
import Derived.Test.YthjjdelpdiipdaaGreatDoorMX31
import Derived.Test.YthjjdelpdiipdaaGreatDoorMX32
import Derived.Test.YthjjdelpdiipdaaGreatDoorMX33
import Derived.Test.YthjjdelpdiipdaaGreatDoorMX34
import Derived.Test.YthjjdelpdiipdaaGreatDoorMX35
import Derived.Test.YthjjdelpdiipdaaGreatDoorMX36
import Derived.Test.YthjjdelpdiipdaaGreatDoorMX37
import Derived.Test.YthjjdelpdiipdaaGreatDoorMX38
import Derived.Test.YthjjdelpdiipdaaGreatDoorMX39
import Derived.Test.YthjjdelpdiipdaaGreatDoorMX40
import Derived.Test.YthjjdelpdiipdaaGreatDoorMX41
import Derived.Test.YthjjdelpdiipdaaGreatDoorMX42
import Derived.Test.YthjjdelpdiipdaaGreatDoorMX43
import Derived.Test.YthjjdelpdiipdaaGreatDoorMX44
import Derived.Test.YthjjdelpdiipdaaGreatDoorMX45
import Derived.Test.YthjjdelpdiipdaaGreatDoorMX46
import Derived.Test.YthjjdelpdiipdaaGreatDoorMX47
import Derived.Test.YthjjdelpdiipdaaGreatDoorMX48
import Derived.Test.YthjjdelpdiipdaaGreatDoorMX49
import Derived.Test.YthjjdelpdiipdaaGreatDoorMX50
import Derived.WalkKit
import Derived.ProofKit
import Derived.OpenShut
import Derived.ShutString
import Derived.ChangeOld
import Derived.Below
import Derived.Stop.LaidErr
import Derived.ChangeVars
import Derived.LaidMore
import Derived.WalkSmall
import Derived.Stop.Joined
import Derived.SevenTiedAt
import Derived.Test.YthjjdelpdiipdaaGreatDoorTie
import Derived.Test.YthjjdelpdiipdaaGreatDoorCards
namespace Go.Proofs.YthjjdelpdiipdaaGreatDoor.fnExactHeldIn
open Go.ChangeShapes Go.WideShapes Go.ChangeAt Go.RowKit
set_option linter.unusedVariables false

theorem own : ownKnob Tryz.prog.godebug = none := by kernel_rfl
theorem laidOut : laidOutB Tryz.prog = true := by kernel_rfl

theorem gE : Tryz.prog.globalNamed "loop.example/g00851/impl.errNode" = some 0 := by kernel_rfl
theorem gT : (Tryz.prog.globals[0]?).map (·.type) = some 87 := by kernel_rfl
theorem door_met (os : Os) (args : Array Value) : laidMetH Tryz.prog Rows.fnExactHeldInRow.laid ((World.doorLaid Tryz.prog 60 os).forCall (fun _ _ => 0) ⟨#[], args, []⟩).memory :=
  laidMetH_of_parts3 (fuel := 8) (laidMet_of_run' 8 (by kernel_rfl) (by kernel_rfl)) (by kernel_rfl) (by kernel_rfl)

set_option maxRecDepth 100000 in
theorem lifted (os : Os) (started : os.Started) (H : Type) (enc : TypeId × Value → H) :
    ReturnsInHanded {} Tryz.checked os 4 .any (fun w args => (Rows.fnExactHeldInSpec.pre enc Tryz.prog Tryz.f4 [] false w args ∧ laidMetH Tryz.prog Rows.fnExactHeldInRow.laid w) ∧ sizedMet enc Tryz.prog Tryz.f4 (OpenSpec.ofChange Rows.fnExactHeldInSpec) false w args) (Rows.fnExactHeldInSpec.post enc Tryz.prog Tryz.f4 false true false false) := by
  refine returnsInHanded_of_change_and (C := Tryz.checked) (X := fun w _ => laidMetH Tryz.prog Rows.fnExactHeldInRow.laid w) (fun _ _ _ hh h => h.of_heap hh) own started (by kernel_rfl) Tryz.func4
    (ChangeSpec.witness_shaped (enc := enc) (C := Tryz.checked) (os := os) (X := fun w _ => laidMetH Tryz.prog Rows.fnExactHeldInRow.laid w) false (World.doorLaid Tryz.prog 60 os) #[(.agg #[.slice none 0 0, .slice none 0 0, .slice none 0 0, .slice none 0 0, .int .i64 0, .int .i64 0, .int .i64 0, .slice none 0 0, .int .i64 0, .int .i64 0, .int .i64 0, .slice none 0 0, .bool false, .int .i64 0, .int .i64 0, .slice none 0 0, .slice none 0 0, .int .i64 0, .slice none 0 0])] 8 rfl (World.shaped_of_RefB (by kernel_rfl) (by kernel_rfl)) (by kernel_rfl) (by kernel_rfl) (by kernel_rfl) (door_met os _)) ?_
  intro W base args ds gs before hval0 hW hcnd _ hL _
  have hval : ∀ (j : Nat) t v, Tryz.f4.params[j]? = some t → args[j]? = some v → Value.okWide Tryz.prog W .any base t v := hval0
  have hW' := hW
  obtain ⟨p, q, hA0, hV, rfl, hfz, hnd⟩ := hW
  have hA : DataW.TrodAll enc Tryz.prog W 0 (fun _ => true) true Tryz.f4.params.toList args.toList ds p := hA0
  rw [Tryz.params4] at hA hval
  obtain ⟨v0, vs0, d0, ds0, p0, q0, hargs, rfl, rfl, h0, r0⟩ := trodAll_cons hA
  obtain ⟨rfl, rfl, rfl⟩ := trodAll_nil r0
  obtain rfl : args = #[v0] := by cases args; simp_all
  have hV1 : DataW.TrodVars enc Tryz.prog W (fun _ => true) ["loop.example/g00851/impl.errNode"] gs q := hV
  obtain ⟨g, t, cs, fuel, dv, pv, rfl, hg, ht, hvar, hdv, rfl⟩ := trodVars_one hV1
  obtain rfl := Option.some.inj (gE.symm.trans hg)
  obtain rfl := Option.some.inj (gT.symm.trans ht)
  obtain ⟨old, hcs, ho, hx⟩ := held_of_trod_list Tryz.underlying87 hdv
  simp only [Prod.mk.injEq] at hx
  obtain ⟨rfl, rfl⟩ := hx
  have hcs' : cs = #[old] := by cases cs; simp_all
  subst hcs'
  have hvc : W.cell? ⟨0, 0, none⟩ = some old := by simpa using World.var?_cell hg hvar 0
  have hvl := World.block_lt_of_cell? _ _ hvc
  clear hV1 hL
  have hv0 : VarIs 0 old W := ⟨hvc, hvl, by cases old with | iface a b => exact Or.inl ⟨a, b, rfl⟩ | nilIface => exact Or.inr rfl | _ => exact ho.elim⟩
  have k0 := h0
  have lt0 : ∀ x ∈ p0, x.block < W.heap.size := by obtain ⟨m, hm⟩ := k0; exact DataW.trod_lt m _ _ _ hm
  obtain ⟨Aa0_0, na0_0, ca0_0, Aa0_1, na0_1, ca0_1, Aa0_2, na0_2, ca0_2, Aa0_3, na0_3, ca0_3, xa0_4, xa0_5, xa0_6, Aa0_7, na0_7, ca0_7, xa0_8, xa0_9, xa0_10, Aa0_11, na0_11, ca0_11, ya0_12, xa0_13, xa0_14, Aa0_15, na0_15, ca0_15, Aa0_16, na0_16, ca0_16, xa0_17, Aa0_18, na0_18, ca0_18, d0, rfl, rd0⟩ := open_log (hval 0 36 v0 rfl rfl) h0
  clear hA0 hval0
  refine (lawHeldIn (VarIs 0 old) VarIs.stays heldM (fun d _ => heldM_sz d) sHeldIn_at (iHeldIn_at old) Aa0_0 na0_0 ca0_0 Aa0_1 na0_1 ca0_1 Aa0_2 na0_2 ca0_2 Aa0_3 na0_3 ca0_3 xa0_4 xa0_5 xa0_6 Aa0_7 na0_7 ca0_7 xa0_8 xa0_9 xa0_10 Aa0_11 na0_11 ca0_11 ya0_12 xa0_13 xa0_14 Aa0_15 na0_15 ca0_15 Aa0_16 na0_16 ca0_16 xa0_17 Aa0_18 na0_18 ca0_18 d0 W rd0 hv0).mono fun e W' ⟨he, bel⟩ => ?_
  subst he
  have hvars : DataW.TrodVars enc Tryz.prog W' (fun b => decide (b < W.heap.size)) ["loop.example/g00851/impl.errNode"] [tok enc old] [.cell 0 0] := by
    have := trodVars_mk1 (enc := enc) (w := W') (spare := fun b => decide (b < W.heap.size)) (fuel := 1) (d := tok enc old) (p := []) hg ht (var?_below bel hg hvl hvar) (trod_held Tryz.underlying87 ho 0)
    simpa [row_one] using this
  simp only [List.append_nil, List.size_toArray, List.length_cons, List.length_nil, Nat.zero_add, row_one] at hW'
  exact ⟨_, rfl, _, _, _, [], _, [.cell 0 0], hW', trodAll_mk1 (shut_bool Tryz.underlying4 _), (trodAll_cons_mk (Below.trod laidOut (by kernel_rfl) (of_decide_eq_true (by kernel_rfl)) k0 bel lt0) trodAll_mk0), hvars, bel.frame _, fun h => by cases h⟩

theorem proved : Rows.FnExactHeldInSaid :=
  OpenClaim.holds_of_wide 4 Tryz.f4 rfl rfl rfl rfl rfl rfl rfl ⟨rfl, rfl, rfl, rfl, rfl⟩ rfl rfl rfl rfl rfl (by kernel_rfl) Tryz.func4 (by kernel_rfl)
    (of_decide_eq_true (by kernel_rfl)) (by unfold Func.isWrapper; first | (rw [if_pos (by decide +kernel)]; kernel_rfl) | (rw [if_neg (by decide +kernel)]; exact ⟨rfl, rfl⟩))
    (fun os started H enc _ => lifted os started H enc)
theorem card : Rows.FnExactHeldInCardSaid :=
  Claim7.holds_tied_plain_at .later [] [.sentinel] true (true, "ebea47c7f764b70bd120830bc801fa5708ad309bef5819b8794b3f3d8137fce7") false
    proved (fun _ h => by cases h) (by kernel_rfl) (fun _ h => by cases h) fnExactHeldIn_row_tie rfl ⟨rfl, rfl⟩ (by kernel_rfl) rfl
    (fun f fn hf hfn => by
      obtain rfl : f = 4 := Option.some.inj ((show Tryz.prog.funcNamed "loop.example/g00851/laws.FnExactHeldIn" = some 4 by kernel_rfl).symm.trans hf) |>.symm
      obtain rfl : fn = Tryz.f4 := (Option.some.inj (Tryz.func4.symm.trans hfn)).symm
      exact ⟨by kernel_rfl, fun j t ht => by
        rw [Tryz.params4] at ht
        have hm : t ∈ [36] := by simpa using Array.mem_of_getElem? ht
        have hall : ([36].all fun u => !Tryz.prog.wantsStandIn u) = true := by kernel_rfl
        exact (show Tryz.prog.wantsStandIn t = false by simpa using List.all_eq_true.1 hall t hm)⟩)
    (by kernel_rfl)
#print axioms card
end Go.Proofs.YthjjdelpdiipdaaGreatDoor.fnExactHeldIn

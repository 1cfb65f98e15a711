/-
  No cell of these rows narrows 'for every input' (looked for: loops, veiled, ifaces, maps, wideKeys, modest, calm, conditions, laid).
  DERIVED. THE GIVEN ROWS OF THIS SEAT. 6 by the template 'for every input the law returns true; each argument reads behind the call as it read before'; 0 by the template 'total and deterministic' (their statements: YtljnplalnhiidaaTotals.lean).
  GIVEN WITH THE SEED: the statements are not yours to turn. If you find one false, say at which input.
  Laid BY PROGRAM, IN A SANDBOX (cutbox-rows.mjs): the forced cells as the released guide's own fill.sh prints them over the translation 375c970f37aa5f23… (all of the seat's roots in one cut). By AI agents, Wed Nov 11 2026. No macro, syntax, notation, axiom, sorry.
-/
import Derived.Test.YtljnplalnhiidaaChecked
import GoSem.Claim
import GoSem.ClaimJoined
import GoSem.ClaimMapViews
import Derived.JoinedTies
import Derived.KernelRfl
namespace Go.Proofs.Ytljnplalnhiidaa
/- THE CELL 'sum', in the pinned program and in every row, IS THE sha256 OF THE DUMP (.gsa) THAT YtljnplalnhiidaaProg.lean LOADS. Nothing in Lean hashes anything: it is a label: what it is worth is what the hold of that sum in a sandbox is worth. -/
noncomputable def Try.pinned : Pinned := { name := "ytljnplalnhiidaa", sum := "375c970f37aa5f2342a41e4cc36d27f5eebd73f43439842c86a21b30c08d8d93", checked := Try.checked }
namespace Rows
def none {H : Type} : Left H := { results := [], args := [] }

/-- 'laws.FnExactHeadOk': WHATEVER THE INPUT: true; the input reads as it did. -/
def fnExactHeadOkSpec : ChangeSpec := { name := "fnExactHeadOk", fn := fun _ => fun
  | [d] => { results := [.lit (.bool true)], args := [d] }
  | _ => none }
def fnExactHeadOkRow : OpenClaim := { program := "ytljnplalnhiidaa", sum := "375c970f37aa5f2342a41e4cc36d27f5eebd73f43439842c86a21b30c08d8d93", func := "loop.example/g00851/laws.FnExactHeadOk", spec := "fnExactHeadOk", apart := false }
def FnExactHeadOkSaid : Prop := fnExactHeadOkRow.holds Try.pinned (OpenSpec.ofChange fnExactHeadOkSpec)

/-- ITS FALSE NEIGHBOUR: 'it returns false'. Refute it at one input. -/
def fnExactHeadOkWrong : ChangeSpec := { name := "fnExactHeadOk", fn := fun _ => fun
  | [d] => { results := [.lit (.bool false)], args := [d] }
  | _ => none }
def FnExactHeadOkWrongFalsely : Prop := fnExactHeadOkRow.holds Try.pinned (OpenSpec.ofChange fnExactHeadOkWrong)

/-- 'laws.FnExactHeadRow': WHATEVER THE INPUT: true; the input reads as it did. -/
def fnExactHeadRowSpec : ChangeSpec := { name := "fnExactHeadRow", fn := fun _ => fun
  | [d] => { results := [.lit (.bool true)], args := [d] }
  | _ => none }
def fnExactHeadRowRow : OpenClaim := { program := "ytljnplalnhiidaa", sum := "375c970f37aa5f2342a41e4cc36d27f5eebd73f43439842c86a21b30c08d8d93", func := "loop.example/g00851/laws.FnExactHeadRow", spec := "fnExactHeadRow", apart := false }
def FnExactHeadRowSaid : Prop := fnExactHeadRowRow.holds Try.pinned (OpenSpec.ofChange fnExactHeadRowSpec)

/-- ITS FALSE NEIGHBOUR: 'it returns false'. Refute it at one input. -/
def fnExactHeadRowWrong : ChangeSpec := { name := "fnExactHeadRow", fn := fun _ => fun
  | [d] => { results := [.lit (.bool false)], args := [d] }
  | _ => none }
def FnExactHeadRowWrongFalsely : Prop := fnExactHeadRowRow.holds Try.pinned (OpenSpec.ofChange fnExactHeadRowWrong)

/-- 'laws.FnExactRowHead': WHATEVER THE INPUT: true; the input reads as it did. -/
def fnExactRowHeadSpec : ChangeSpec := { name := "fnExactRowHead", fn := fun _ => fun
  | [d] => { results := [.lit (.bool true)], args := [d] }
  | _ => none }
def fnExactRowHeadRow : OpenClaim := { program := "ytljnplalnhiidaa", sum := "375c970f37aa5f2342a41e4cc36d27f5eebd73f43439842c86a21b30c08d8d93", func := "loop.example/g00851/laws.FnExactRowHead", spec := "fnExactRowHead", apart := false }
def FnExactRowHeadSaid : Prop := fnExactRowHeadRow.holds Try.pinned (OpenSpec.ofChange fnExactRowHeadSpec)

/-- ITS FALSE NEIGHBOUR: 'it returns false'. Refute it at one input. -/
def fnExactRowHeadWrong : ChangeSpec := { name := "fnExactRowHead", fn := fun _ => fun
  | [d] => { results := [.lit (.bool false)], args := [d] }
  | _ => none }
def FnExactRowHeadWrongFalsely : Prop := fnExactRowHeadRow.holds Try.pinned (OpenSpec.ofChange fnExactRowHeadWrong)

/-- 'laws.FnExactSlotRow': WHATEVER THE INPUT: true; the input reads as it did. -/
def fnExactSlotRowSpec : ChangeSpec := { name := "fnExactSlotRow", fn := fun _ => fun
  | [d] => { results := [.lit (.bool true)], args := [d] }
  | _ => none }
def fnExactSlotRowRow : OpenClaim := { program := "ytljnplalnhiidaa", sum := "375c970f37aa5f2342a41e4cc36d27f5eebd73f43439842c86a21b30c08d8d93", func := "loop.example/g00851/laws.FnExactSlotRow", spec := "fnExactSlotRow", apart := false }
def FnExactSlotRowSaid : Prop := fnExactSlotRowRow.holds Try.pinned (OpenSpec.ofChange fnExactSlotRowSpec)

/-- ITS FALSE NEIGHBOUR: 'it returns false'. Refute it at one input. -/
def fnExactSlotRowWrong : ChangeSpec := { name := "fnExactSlotRow", fn := fun _ => fun
  | [d] => { results := [.lit (.bool false)], args := [d] }
  | _ => none }
def FnExactSlotRowWrongFalsely : Prop := fnExactSlotRowRow.holds Try.pinned (OpenSpec.ofChange fnExactSlotRowWrong)

/-- 'laws.FnExactRowSlot': WHATEVER THE INPUT: true; the input reads as it did. -/
def fnExactRowSlotSpec : ChangeSpec := { name := "fnExactRowSlot", fn := fun _ => fun
  | [d] => { results := [.lit (.bool true)], args := [d] }
  | _ => none }
def fnExactRowSlotRow : OpenClaim := { program := "ytljnplalnhiidaa", sum := "375c970f37aa5f2342a41e4cc36d27f5eebd73f43439842c86a21b30c08d8d93", func := "loop.example/g00851/laws.FnExactRowSlot", spec := "fnExactRowSlot", apart := false }
def FnExactRowSlotSaid : Prop := fnExactRowSlotRow.holds Try.pinned (OpenSpec.ofChange fnExactRowSlotSpec)

/-- ITS FALSE NEIGHBOUR: 'it returns false'. Refute it at one input. -/
def fnExactRowSlotWrong : ChangeSpec := { name := "fnExactRowSlot", fn := fun _ => fun
  | [d] => { results := [.lit (.bool false)], args := [d] }
  | _ => none }
def FnExactRowSlotWrongFalsely : Prop := fnExactRowSlotRow.holds Try.pinned (OpenSpec.ofChange fnExactRowSlotWrong)

/-- 'laws.FnExactSlotOf': WHATEVER THE INPUT: true; the input reads as it did. -/
def fnExactSlotOfSpec : ChangeSpec := { name := "fnExactSlotOf", fn := fun _ => fun
  | [d] => { results := [.lit (.bool true)], args := [d] }
  | _ => none }
def fnExactSlotOfRow : OpenClaim := { program := "ytljnplalnhiidaa", sum := "375c970f37aa5f2342a41e4cc36d27f5eebd73f43439842c86a21b30c08d8d93", func := "loop.example/g00851/laws.FnExactSlotOf", spec := "fnExactSlotOf", apart := false }
def FnExactSlotOfSaid : Prop := fnExactSlotOfRow.holds Try.pinned (OpenSpec.ofChange fnExactSlotOfSpec)

/-- ITS FALSE NEIGHBOUR: 'it returns false'. Refute it at one input. -/
def fnExactSlotOfWrong : ChangeSpec := { name := "fnExactSlotOf", fn := fun _ => fun
  | [d] => { results := [.lit (.bool false)], args := [d] }
  | _ => none }
def FnExactSlotOfWrongFalsely : Prop := fnExactSlotOfRow.holds Try.pinned (OpenSpec.ofChange fnExactSlotOfWrong)

/- THE SECOND FORM. 'bulk': how many values and letters a reading holds, each counted each time it is reached (what is shared counts as often as it is met; a slice's spare places count too). A statement '..UptoSaid' is the law's where the arguments, and the package variables that the reading takes, are together of bulk at most 1048576: NARROWER than '..Said'. Prove '..Said' where nothing that the law and all that it calls make is longer than what came in: it says more and counts as full. Else prove '..UptoSaid'. A law counts once. -/
mutual
def uptoBulk {H : Type} : DataW H → Nat
  | .lit (.string bytes) => bytes.length + 1
  | .lit _ => 1
  | .nil => 1
  | .ptr d => uptoBulk d + 1
  | .slice elems spare => uptoBulkAll elems + uptoBulkAll spare + 1
  | .agg parts => uptoBulkAll parts + 1
  | .iface _ d => uptoBulk d + 1
  | .map entries => uptoBulkEntries entries + 1
  | .held _ => 1
def uptoBulkAll {H : Type} : List (DataW H) → Nat
  | [] => 0
  | d :: r => uptoBulk d + uptoBulkAll r
def uptoBulkEntries {H : Type} : List (Lit × DataW H) → Nat
  | [] => 0
  | x :: r => uptoBulkEntry x + uptoBulkEntries r
def uptoBulkEntry {H : Type} : Lit × DataW H → Nat
  | (.string bytes, d) => bytes.length + uptoBulk d + 1
  | (_, d) => uptoBulk d + 1
 end
def uptoSmall : (H : Type) → List (DataW H) → Bool := fun _ ds => decide (uptoBulkAll ds ≤ 1048576)
def OpenSpec.upto (s : _root_.Go.ChangeSpec) : _root_.Go.OpenSpec := { _root_.Go.OpenSpec.ofChange s with cond := some uptoSmall }

/-- 'laws.FnExactHeadOk', WHERE WHAT IT READS IS OF BULK AT MOST 1048576: true; the input reads as it did. -/
def fnExactHeadOkUptoRow : OpenClaim := { program := "ytljnplalnhiidaa", sum := "375c970f37aa5f2342a41e4cc36d27f5eebd73f43439842c86a21b30c08d8d93", func := "loop.example/g00851/laws.FnExactHeadOk", spec := "fnExactHeadOk", apart := false, narrowed := true }
def FnExactHeadOkUptoSaid : Prop := fnExactHeadOkUptoRow.holds Try.pinned (OpenSpec.upto fnExactHeadOkSpec)

/-- 'laws.FnExactHeadRow', WHERE WHAT IT READS IS OF BULK AT MOST 1048576: true; the input reads as it did. -/
def fnExactHeadRowUptoRow : OpenClaim := { program := "ytljnplalnhiidaa", sum := "375c970f37aa5f2342a41e4cc36d27f5eebd73f43439842c86a21b30c08d8d93", func := "loop.example/g00851/laws.FnExactHeadRow", spec := "fnExactHeadRow", apart := false, narrowed := true }
def FnExactHeadRowUptoSaid : Prop := fnExactHeadRowUptoRow.holds Try.pinned (OpenSpec.upto fnExactHeadRowSpec)

/-- 'laws.FnExactRowHead', WHERE WHAT IT READS IS OF BULK AT MOST 1048576: true; the input reads as it did. -/
def fnExactRowHeadUptoRow : OpenClaim := { program := "ytljnplalnhiidaa", sum := "375c970f37aa5f2342a41e4cc36d27f5eebd73f43439842c86a21b30c08d8d93", func := "loop.example/g00851/laws.FnExactRowHead", spec := "fnExactRowHead", apart := false, narrowed := true }
def FnExactRowHeadUptoSaid : Prop := fnExactRowHeadUptoRow.holds Try.pinned (OpenSpec.upto fnExactRowHeadSpec)

/-- 'laws.FnExactSlotRow', WHERE WHAT IT READS IS OF BULK AT MOST 1048576: true; the input reads as it did. -/
def fnExactSlotRowUptoRow : OpenClaim := { program := "ytljnplalnhiidaa", sum := "375c970f37aa5f2342a41e4cc36d27f5eebd73f43439842c86a21b30c08d8d93", func := "loop.example/g00851/laws.FnExactSlotRow", spec := "fnExactSlotRow", apart := false, narrowed := true }
def FnExactSlotRowUptoSaid : Prop := fnExactSlotRowUptoRow.holds Try.pinned (OpenSpec.upto fnExactSlotRowSpec)

/-- 'laws.FnExactRowSlot', WHERE WHAT IT READS IS OF BULK AT MOST 1048576: true; the input reads as it did. -/
def fnExactRowSlotUptoRow : OpenClaim := { program := "ytljnplalnhiidaa", sum := "375c970f37aa5f2342a41e4cc36d27f5eebd73f43439842c86a21b30c08d8d93", func := "loop.example/g00851/laws.FnExactRowSlot", spec := "fnExactRowSlot", apart := false, narrowed := true }
def FnExactRowSlotUptoSaid : Prop := fnExactRowSlotUptoRow.holds Try.pinned (OpenSpec.upto fnExactRowSlotSpec)

/-- 'laws.FnExactSlotOf', WHERE WHAT IT READS IS OF BULK AT MOST 1048576: true; the input reads as it did. -/
def fnExactSlotOfUptoRow : OpenClaim := { program := "ytljnplalnhiidaa", sum := "375c970f37aa5f2342a41e4cc36d27f5eebd73f43439842c86a21b30c08d8d93", func := "loop.example/g00851/laws.FnExactSlotOf", spec := "fnExactSlotOf", apart := false, narrowed := true }
def FnExactSlotOfUptoSaid : Prop := fnExactSlotOfUptoRow.holds Try.pinned (OpenSpec.upto fnExactSlotOfSpec)

end Rows
end Go.Proofs.Ytljnplalnhiidaa

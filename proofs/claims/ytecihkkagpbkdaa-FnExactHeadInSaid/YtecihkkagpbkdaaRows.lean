/-
  No cell of these rows narrows 'for every input' (looked for: loops, veiled, ifaces, maps, wideKeys, modest, calm, conditions, laid).
  DERIVED. THE GIVEN ROWS OF THIS SEAT. 5 by the template 'for every input the law returns true; each argument reads behind the call as it read before'; 0 by the template 'total and deterministic' (their statements: YtecihkkagpbkdaaTotals.lean).
  GIVEN WITH THE SEED: the statements are not yours to turn. If you find one false, say at which input.
  Laid BY PROGRAM, IN A SANDBOX (cutbox-rows.mjs): the forced cells as the released guide's own fill.sh prints them over the translation f5e8e9eba64a113b… (all of the seat's roots in one cut). By AI agents, Wed Nov 11 2026. No macro, syntax, notation, axiom, sorry.
-/
import Derived.Test.YtecihkkagpbkdaaChecked
import GoSem.Claim
import GoSem.ClaimJoined
import GoSem.ClaimMapViews
import Derived.JoinedTies
import Derived.KernelRfl
namespace Go.Proofs.Ytecihkkagpbkdaa
/- THE CELL 'sum', in the pinned program and in every row, IS THE sha256 OF THE DUMP (.gsa) THAT YtecihkkagpbkdaaProg.lean LOADS. Nothing in Lean hashes anything: it is a label: what it is worth is what the hold of that sum in a sandbox is worth. -/
noncomputable def Try.pinned : Pinned := { name := "ytecihkkagpbkdaa", sum := "f5e8e9eba64a113be51f8361a9154af4354288c1c1fbf9fff48b6d94485f8c66", checked := Try.checked }
namespace Rows
def none {H : Type} : Left H := { results := [], args := [] }

/-- 'laws.FnExactKeptOk': WHATEVER THE INPUT: true; the input reads as it did. -/
def fnExactKeptOkSpec : ChangeSpec := { name := "fnExactKeptOk", fn := fun _ => fun
  | [d] => { results := [.lit (.bool true)], args := [d] }
  | _ => none }
def fnExactKeptOkRow : OpenClaim := { program := "ytecihkkagpbkdaa", sum := "f5e8e9eba64a113be51f8361a9154af4354288c1c1fbf9fff48b6d94485f8c66", func := "loop.example/g00851/laws.FnExactKeptOk", spec := "fnExactKeptOk", apart := false }
def FnExactKeptOkSaid : Prop := fnExactKeptOkRow.holds Try.pinned (OpenSpec.ofChange fnExactKeptOkSpec)

/-- ITS FALSE NEIGHBOUR: 'it returns false'. Refute it at one input. -/
def fnExactKeptOkWrong : ChangeSpec := { name := "fnExactKeptOk", fn := fun _ => fun
  | [d] => { results := [.lit (.bool false)], args := [d] }
  | _ => none }
def FnExactKeptOkWrongFalsely : Prop := fnExactKeptOkRow.holds Try.pinned (OpenSpec.ofChange fnExactKeptOkWrong)

/-- 'laws.FnExactNewKept': WHATEVER THE INPUT: true; the input reads as it did. -/
def fnExactNewKeptSpec : ChangeSpec := { name := "fnExactNewKept", fn := fun _ => fun
  | [] => { results := [.lit (.bool true)], args := [] }
  | _ => none }
def fnExactNewKeptRow : OpenClaim := { program := "ytecihkkagpbkdaa", sum := "f5e8e9eba64a113be51f8361a9154af4354288c1c1fbf9fff48b6d94485f8c66", func := "loop.example/g00851/laws.FnExactNewKept", spec := "fnExactNewKept", apart := false }
def FnExactNewKeptSaid : Prop := fnExactNewKeptRow.holds Try.pinned (OpenSpec.ofChange fnExactNewKeptSpec)

/-- ITS FALSE NEIGHBOUR: 'it returns false'. Refute it at one input. -/
def fnExactNewKeptWrong : ChangeSpec := { name := "fnExactNewKept", fn := fun _ => fun
  | [] => { results := [.lit (.bool false)], args := [] }
  | _ => none }
def FnExactNewKeptWrongFalsely : Prop := fnExactNewKeptRow.holds Try.pinned (OpenSpec.ofChange fnExactNewKeptWrong)

/-- 'laws.FnExactKeptEntry': WHATEVER THE INPUT: true; the input reads as it did. -/
def fnExactKeptEntrySpec : ChangeSpec := { name := "fnExactKeptEntry", fn := fun _ => fun
  | [d1, d2] => { results := [.lit (.bool true)], args := [d1, d2] }
  | _ => none }
def fnExactKeptEntryRow : OpenClaim := { program := "ytecihkkagpbkdaa", sum := "f5e8e9eba64a113be51f8361a9154af4354288c1c1fbf9fff48b6d94485f8c66", func := "loop.example/g00851/laws.FnExactKeptEntry", spec := "fnExactKeptEntry", apart := false }
def FnExactKeptEntrySaid : Prop := fnExactKeptEntryRow.holds Try.pinned (OpenSpec.ofChange fnExactKeptEntrySpec)

/-- ITS FALSE NEIGHBOUR: 'it returns false'. Refute it at one input. -/
def fnExactKeptEntryWrong : ChangeSpec := { name := "fnExactKeptEntry", fn := fun _ => fun
  | [d1, d2] => { results := [.lit (.bool false)], args := [d1, d2] }
  | _ => none }
def FnExactKeptEntryWrongFalsely : Prop := fnExactKeptEntryRow.holds Try.pinned (OpenSpec.ofChange fnExactKeptEntryWrong)

/-- 'laws.FnExactKeptHead': WHATEVER THE INPUT: true; the input reads as it did. -/
def fnExactKeptHeadSpec : ChangeSpec := { name := "fnExactKeptHead", fn := fun _ => fun
  | [d1, d2] => { results := [.lit (.bool true)], args := [d1, d2] }
  | _ => none }
def fnExactKeptHeadRow : OpenClaim := { program := "ytecihkkagpbkdaa", sum := "f5e8e9eba64a113be51f8361a9154af4354288c1c1fbf9fff48b6d94485f8c66", func := "loop.example/g00851/laws.FnExactKeptHead", spec := "fnExactKeptHead", apart := false }
def FnExactKeptHeadSaid : Prop := fnExactKeptHeadRow.holds Try.pinned (OpenSpec.ofChange fnExactKeptHeadSpec)

/-- ITS FALSE NEIGHBOUR: 'it returns false'. Refute it at one input. -/
def fnExactKeptHeadWrong : ChangeSpec := { name := "fnExactKeptHead", fn := fun _ => fun
  | [d1, d2] => { results := [.lit (.bool false)], args := [d1, d2] }
  | _ => none }
def FnExactKeptHeadWrongFalsely : Prop := fnExactKeptHeadRow.holds Try.pinned (OpenSpec.ofChange fnExactKeptHeadWrong)

/-- 'laws.FnExactHeadIn': WHATEVER THE INPUT: true; the input reads as it did. -/
def fnExactHeadInSpec : ChangeSpec := { name := "fnExactHeadIn", fn := fun _ => fun
  | [d] => { results := [.lit (.bool true)], args := [d] }
  | _ => none }
def fnExactHeadInRow : OpenClaim := { program := "ytecihkkagpbkdaa", sum := "f5e8e9eba64a113be51f8361a9154af4354288c1c1fbf9fff48b6d94485f8c66", func := "loop.example/g00851/laws.FnExactHeadIn", spec := "fnExactHeadIn", unfollowed := true, recurses := true, apart := false }
def FnExactHeadInSaid : Prop := fnExactHeadInRow.holds Try.pinned (OpenSpec.ofChange fnExactHeadInSpec)

/-- ITS FALSE NEIGHBOUR: 'it returns false'. Refute it at one input. -/
def fnExactHeadInWrong : ChangeSpec := { name := "fnExactHeadIn", fn := fun _ => fun
  | [d] => { results := [.lit (.bool false)], args := [d] }
  | _ => none }
def FnExactHeadInWrongFalsely : Prop := fnExactHeadInRow.holds Try.pinned (OpenSpec.ofChange fnExactHeadInWrong)

/- THE SECOND FORM. 'bulk': how many values and letters a reading holds, each counted each time it is reached (what is shared counts as often as it is met; a slice's spare places count too). A statement '..UptoSaid' is the law's where the arguments, and the package variables that the reading takes, are together of bulk at most 1048576: NARROWER than '..Said'. Prove '..Said' where nothing that the law and all that it calls make is longer than what came in: it says more and counts as full. Else prove '..UptoSaid'. A law counts once. -/
mutual
def uptoBulk {H : Type} : DataW H → Nat
  | .lit (.string bytes) => bytes.length + 1
  | .lit _ => 1
  | .nil => 1
  | .ptr d => uptoBulk d + 1
  | .slice elems spare => uptoBulkAll elems + uptoBulkAll spare + 1
  | .agg parts => uptoBulkAll parts + 1
  | .iface _ d => uptoBulk d + 1
  | .map entries => uptoBulkEntries entries + 1
  | .held _ => 1
def uptoBulkAll {H : Type} : List (DataW H) → Nat
  | [] => 0
  | d :: r => uptoBulk d + uptoBulkAll r
def uptoBulkEntries {H : Type} : List (Lit × DataW H) → Nat
  | [] => 0
  | x :: r => uptoBulkEntry x + uptoBulkEntries r
def uptoBulkEntry {H : Type} : Lit × DataW H → Nat
  | (.string bytes, d) => bytes.length + uptoBulk d + 1
  | (_, d) => uptoBulk d + 1
 end
def uptoSmall : (H : Type) → List (DataW H) → Bool := fun _ ds => decide (uptoBulkAll ds ≤ 1048576)
def OpenSpec.upto (s : _root_.Go.ChangeSpec) : _root_.Go.OpenSpec := { _root_.Go.OpenSpec.ofChange s with cond := some uptoSmall }

/-- 'laws.FnExactKeptOk', WHERE WHAT IT READS IS OF BULK AT MOST 1048576: true; the input reads as it did. -/
def fnExactKeptOkUptoRow : OpenClaim := { program := "ytecihkkagpbkdaa", sum := "f5e8e9eba64a113be51f8361a9154af4354288c1c1fbf9fff48b6d94485f8c66", func := "loop.example/g00851/laws.FnExactKeptOk", spec := "fnExactKeptOk", apart := false, narrowed := true }
def FnExactKeptOkUptoSaid : Prop := fnExactKeptOkUptoRow.holds Try.pinned (OpenSpec.upto fnExactKeptOkSpec)

/-- 'laws.FnExactNewKept', WHERE WHAT IT READS IS OF BULK AT MOST 1048576: true; the input reads as it did. -/
def fnExactNewKeptUptoRow : OpenClaim := { program := "ytecihkkagpbkdaa", sum := "f5e8e9eba64a113be51f8361a9154af4354288c1c1fbf9fff48b6d94485f8c66", func := "loop.example/g00851/laws.FnExactNewKept", spec := "fnExactNewKept", apart := false, narrowed := true }
def FnExactNewKeptUptoSaid : Prop := fnExactNewKeptUptoRow.holds Try.pinned (OpenSpec.upto fnExactNewKeptSpec)

/-- 'laws.FnExactKeptEntry', WHERE WHAT IT READS IS OF BULK AT MOST 1048576: true; the input reads as it did. -/
def fnExactKeptEntryUptoRow : OpenClaim := { program := "ytecihkkagpbkdaa", sum := "f5e8e9eba64a113be51f8361a9154af4354288c1c1fbf9fff48b6d94485f8c66", func := "loop.example/g00851/laws.FnExactKeptEntry", spec := "fnExactKeptEntry", apart := false, narrowed := true }
def FnExactKeptEntryUptoSaid : Prop := fnExactKeptEntryUptoRow.holds Try.pinned (OpenSpec.upto fnExactKeptEntrySpec)

/-- 'laws.FnExactKeptHead', WHERE WHAT IT READS IS OF BULK AT MOST 1048576: true; the input reads as it did. -/
def fnExactKeptHeadUptoRow : OpenClaim := { program := "ytecihkkagpbkdaa", sum := "f5e8e9eba64a113be51f8361a9154af4354288c1c1fbf9fff48b6d94485f8c66", func := "loop.example/g00851/laws.FnExactKeptHead", spec := "fnExactKeptHead", apart := false, narrowed := true }
def FnExactKeptHeadUptoSaid : Prop := fnExactKeptHeadUptoRow.holds Try.pinned (OpenSpec.upto fnExactKeptHeadSpec)

/-- 'laws.FnExactHeadIn', WHERE WHAT IT READS IS OF BULK AT MOST 1048576: true; the input reads as it did. -/
def fnExactHeadInUptoRow : OpenClaim := { program := "ytecihkkagpbkdaa", sum := "f5e8e9eba64a113be51f8361a9154af4354288c1c1fbf9fff48b6d94485f8c66", func := "loop.example/g00851/laws.FnExactHeadIn", spec := "fnExactHeadIn", unfollowed := true, recurses := true, apart := false, narrowed := true }
def FnExactHeadInUptoSaid : Prop := fnExactHeadInUptoRow.holds Try.pinned (OpenSpec.upto fnExactHeadInSpec)

end Rows
end Go.Proofs.Ytecihkkagpbkdaa

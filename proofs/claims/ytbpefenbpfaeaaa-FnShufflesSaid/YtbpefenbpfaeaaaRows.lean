/-
  No cell of these rows narrows 'for every input' (looked for: loops, veiled, ifaces, maps, wideKeys, modest, calm, conditions, laid).
  DERIVED. THE GIVEN ROWS OF THIS SEAT. 8 by the template 'for every input the law returns true; each argument reads behind the call as it read before'; 0 by the template 'total and deterministic' (their statements: YtbpefenbpfaeaaaTotals.lean).
  GIVEN WITH THE SEED: the statements are not yours to turn. If you find one false, say at which input.
  Laid BY PROGRAM, IN A SANDBOX (cutbox-rows.mjs): the forced cells as the released guide's own fill.sh prints them over the translation f6e699cb26976d62… (all of the seat's roots in one cut). By AI agents, Wed Nov 11 2026. No macro, syntax, notation, axiom, sorry.
-/
import Derived.Test.YtbpefenbpfaeaaaChecked
import GoSem.Claim
import GoSem.ClaimJoined
import GoSem.ClaimMapViews
import Derived.JoinedTies
import Derived.KernelRfl
namespace Go.Proofs.Ytbpefenbpfaeaaa
/- THE CELL 'sum', in the pinned program and in every row, IS THE sha256 OF THE DUMP (.gsa) THAT YtbpefenbpfaeaaaProg.lean LOADS. Nothing in Lean hashes anything: it is a label: what it is worth is what the hold of that sum in a sandbox is worth. -/
noncomputable def Try.pinned : Pinned := { name := "ytbpefenbpfaeaaa", sum := "f6e699cb26976d62536236ee98e0d47860346cf3b1e20447c02eabd4b0757fef", checked := Try.checked }
namespace Rows
def none {H : Type} : Left H := { results := [], args := [] }

/-- 'laws.FnDiceAgain': WHATEVER THE INPUT: true; the input reads as it did. -/
def fnDiceAgainSpec : ChangeSpec := { name := "fnDiceAgain", fn := fun _ => fun
  | [d] => { results := [.lit (.bool true)], args := [d] }
  | _ => none }
def fnDiceAgainRow : OpenClaim := { program := "ytbpefenbpfaeaaa", sum := "f6e699cb26976d62536236ee98e0d47860346cf3b1e20447c02eabd4b0757fef", func := "loop.example/g00851/laws.FnDiceAgain", spec := "fnDiceAgain", unfollowed := true, recurses := true, apart := false }
def FnDiceAgainSaid : Prop := fnDiceAgainRow.holds Try.pinned (OpenSpec.ofChange fnDiceAgainSpec)

/-- ITS FALSE NEIGHBOUR: 'it returns false'. Refute it at one input. -/
def fnDiceAgainWrong : ChangeSpec := { name := "fnDiceAgain", fn := fun _ => fun
  | [d] => { results := [.lit (.bool false)], args := [d] }
  | _ => none }
def FnDiceAgainWrongFalsely : Prop := fnDiceAgainRow.holds Try.pinned (OpenSpec.ofChange fnDiceAgainWrong)

/-- 'laws.FnShuffles': WHATEVER THE INPUT: true; the input reads as it did. -/
def fnShufflesSpec : ChangeSpec := { name := "fnShuffles", fn := fun _ => fun
  | [d] => { results := [.lit (.bool true)], args := [d] }
  | _ => none }
def fnShufflesRow : OpenClaim := { program := "ytbpefenbpfaeaaa", sum := "f6e699cb26976d62536236ee98e0d47860346cf3b1e20447c02eabd4b0757fef", func := "loop.example/g00851/laws.FnShuffles", spec := "fnShuffles", unfollowed := true, recurses := true, apart := false }
def FnShufflesSaid : Prop := fnShufflesRow.holds Try.pinned (OpenSpec.ofChange fnShufflesSpec)

/-- ITS FALSE NEIGHBOUR: 'it returns false'. Refute it at one input. -/
def fnShufflesWrong : ChangeSpec := { name := "fnShuffles", fn := fun _ => fun
  | [d] => { results := [.lit (.bool false)], args := [d] }
  | _ => none }
def FnShufflesWrongFalsely : Prop := fnShufflesRow.holds Try.pinned (OpenSpec.ofChange fnShufflesWrong)

/-- 'laws.FnExactDiceOk': WHATEVER THE INPUT: true; the input reads as it did. -/
def fnExactDiceOkSpec : ChangeSpec := { name := "fnExactDiceOk", fn := fun _ => fun
  | [d] => { results := [.lit (.bool true)], args := [d] }
  | _ => none }
def fnExactDiceOkRow : OpenClaim := { program := "ytbpefenbpfaeaaa", sum := "f6e699cb26976d62536236ee98e0d47860346cf3b1e20447c02eabd4b0757fef", func := "loop.example/g00851/laws.FnExactDiceOk", spec := "fnExactDiceOk", apart := false }
def FnExactDiceOkSaid : Prop := fnExactDiceOkRow.holds Try.pinned (OpenSpec.ofChange fnExactDiceOkSpec)

/-- ITS FALSE NEIGHBOUR: 'it returns false'. Refute it at one input. -/
def fnExactDiceOkWrong : ChangeSpec := { name := "fnExactDiceOk", fn := fun _ => fun
  | [d] => { results := [.lit (.bool false)], args := [d] }
  | _ => none }
def FnExactDiceOkWrongFalsely : Prop := fnExactDiceOkRow.holds Try.pinned (OpenSpec.ofChange fnExactDiceOkWrong)

/-- 'laws.FnExactDiceOf': WHATEVER THE INPUT: true; the input reads as it did. -/
def fnExactDiceOfSpec : ChangeSpec := { name := "fnExactDiceOf", fn := fun _ => fun
  | [d] => { results := [.lit (.bool true)], args := [d] }
  | _ => none }
def fnExactDiceOfRow : OpenClaim := { program := "ytbpefenbpfaeaaa", sum := "f6e699cb26976d62536236ee98e0d47860346cf3b1e20447c02eabd4b0757fef", func := "loop.example/g00851/laws.FnExactDiceOf", spec := "fnExactDiceOf", apart := false }
def FnExactDiceOfSaid : Prop := fnExactDiceOfRow.holds Try.pinned (OpenSpec.ofChange fnExactDiceOfSpec)

/-- ITS FALSE NEIGHBOUR: 'it returns false'. Refute it at one input. -/
def fnExactDiceOfWrong : ChangeSpec := { name := "fnExactDiceOf", fn := fun _ => fun
  | [d] => { results := [.lit (.bool false)], args := [d] }
  | _ => none }
def FnExactDiceOfWrongFalsely : Prop := fnExactDiceOfRow.holds Try.pinned (OpenSpec.ofChange fnExactDiceOfWrong)

/-- 'laws.FnExactRolled': WHATEVER THE INPUT: true; the input reads as it did. -/
def fnExactRolledSpec : ChangeSpec := { name := "fnExactRolled", fn := fun _ => fun
  | [d] => { results := [.lit (.bool true)], args := [d] }
  | _ => none }
def fnExactRolledRow : OpenClaim := { program := "ytbpefenbpfaeaaa", sum := "f6e699cb26976d62536236ee98e0d47860346cf3b1e20447c02eabd4b0757fef", func := "loop.example/g00851/laws.FnExactRolled", spec := "fnExactRolled", unfollowed := true, recurses := true, apart := false }
def FnExactRolledSaid : Prop := fnExactRolledRow.holds Try.pinned (OpenSpec.ofChange fnExactRolledSpec)

/-- ITS FALSE NEIGHBOUR: 'it returns false'. Refute it at one input. -/
def fnExactRolledWrong : ChangeSpec := { name := "fnExactRolled", fn := fun _ => fun
  | [d] => { results := [.lit (.bool false)], args := [d] }
  | _ => none }
def FnExactRolledWrongFalsely : Prop := fnExactRolledRow.holds Try.pinned (OpenSpec.ofChange fnExactRolledWrong)

/-- 'laws.FnExactUnder': WHATEVER THE INPUT: true; the input reads as it did. -/
def fnExactUnderSpec : ChangeSpec := { name := "fnExactUnder", fn := fun _ => fun
  | [d1, d2] => { results := [.lit (.bool true)], args := [d1, d2] }
  | _ => none }
def fnExactUnderRow : OpenClaim := { program := "ytbpefenbpfaeaaa", sum := "f6e699cb26976d62536236ee98e0d47860346cf3b1e20447c02eabd4b0757fef", func := "loop.example/g00851/laws.FnExactUnder", spec := "fnExactUnder", unfollowed := true, recurses := true, apart := false }
def FnExactUnderSaid : Prop := fnExactUnderRow.holds Try.pinned (OpenSpec.ofChange fnExactUnderSpec)

/-- ITS FALSE NEIGHBOUR: 'it returns false'. Refute it at one input. -/
def fnExactUnderWrong : ChangeSpec := { name := "fnExactUnder", fn := fun _ => fun
  | [d1, d2] => { results := [.lit (.bool false)], args := [d1, d2] }
  | _ => none }
def FnExactUnderWrongFalsely : Prop := fnExactUnderRow.holds Try.pinned (OpenSpec.ofChange fnExactUnderWrong)

/-- 'laws.FnExactSpread': WHATEVER THE INPUT: true; the input reads as it did. -/
def fnExactSpreadSpec : ChangeSpec := { name := "fnExactSpread", fn := fun _ => fun
  | [d1, d2, d3] => { results := [.lit (.bool true)], args := [d1, d2, d3] }
  | _ => none }
def fnExactSpreadRow : OpenClaim := { program := "ytbpefenbpfaeaaa", sum := "f6e699cb26976d62536236ee98e0d47860346cf3b1e20447c02eabd4b0757fef", func := "loop.example/g00851/laws.FnExactSpread", spec := "fnExactSpread", unfollowed := true, recurses := true, apart := false }
def FnExactSpreadSaid : Prop := fnExactSpreadRow.holds Try.pinned (OpenSpec.ofChange fnExactSpreadSpec)

/-- ITS FALSE NEIGHBOUR: 'it returns false'. Refute it at one input. -/
def fnExactSpreadWrong : ChangeSpec := { name := "fnExactSpread", fn := fun _ => fun
  | [d1, d2, d3] => { results := [.lit (.bool false)], args := [d1, d2, d3] }
  | _ => none }
def FnExactSpreadWrongFalsely : Prop := fnExactSpreadRow.holds Try.pinned (OpenSpec.ofChange fnExactSpreadWrong)

/-- 'laws.FnExactShuffled': WHATEVER THE INPUT: true; the input reads as it did. -/
def fnExactShuffledSpec : ChangeSpec := { name := "fnExactShuffled", fn := fun _ => fun
  | [d1, d2] => { results := [.lit (.bool true)], args := [d1, d2] }
  | _ => none }
def fnExactShuffledRow : OpenClaim := { program := "ytbpefenbpfaeaaa", sum := "f6e699cb26976d62536236ee98e0d47860346cf3b1e20447c02eabd4b0757fef", func := "loop.example/g00851/laws.FnExactShuffled", spec := "fnExactShuffled", unfollowed := true, recurses := true, apart := false }
def FnExactShuffledSaid : Prop := fnExactShuffledRow.holds Try.pinned (OpenSpec.ofChange fnExactShuffledSpec)

/-- ITS FALSE NEIGHBOUR: 'it returns false'. Refute it at one input. -/
def fnExactShuffledWrong : ChangeSpec := { name := "fnExactShuffled", fn := fun _ => fun
  | [d1, d2] => { results := [.lit (.bool false)], args := [d1, d2] }
  | _ => none }
def FnExactShuffledWrongFalsely : Prop := fnExactShuffledRow.holds Try.pinned (OpenSpec.ofChange fnExactShuffledWrong)

/- THE SECOND FORM. 'bulk': how many values and letters a reading holds, each counted each time it is reached (what is shared counts as often as it is met; a slice's spare places count too). A statement '..UptoSaid' is the law's where the arguments, and the package variables that the reading takes, are together of bulk at most 1048576: NARROWER than '..Said'. Prove '..Said' where nothing that the law and all that it calls make is longer than what came in: it says more and counts as full. Else prove '..UptoSaid'. A law counts once. -/
mutual
def uptoBulk {H : Type} : DataW H → Nat
  | .lit (.string bytes) => bytes.length + 1
  | .lit _ => 1
  | .nil => 1
  | .ptr d => uptoBulk d + 1
  | .slice elems spare => uptoBulkAll elems + uptoBulkAll spare + 1
  | .agg parts => uptoBulkAll parts + 1
  | .iface _ d => uptoBulk d + 1
  | .map entries => uptoBulkEntries entries + 1
  | .held _ => 1
def uptoBulkAll {H : Type} : List (DataW H) → Nat
  | [] => 0
  | d :: r => uptoBulk d + uptoBulkAll r
def uptoBulkEntries {H : Type} : List (Lit × DataW H) → Nat
  | [] => 0
  | x :: r => uptoBulkEntry x + uptoBulkEntries r
def uptoBulkEntry {H : Type} : Lit × DataW H → Nat
  | (.string bytes, d) => bytes.length + uptoBulk d + 1
  | (_, d) => uptoBulk d + 1
 end
def uptoSmall : (H : Type) → List (DataW H) → Bool := fun _ ds => decide (uptoBulkAll ds ≤ 1048576)
def OpenSpec.upto (s : _root_.Go.ChangeSpec) : _root_.Go.OpenSpec := { _root_.Go.OpenSpec.ofChange s with cond := some uptoSmall }

/-- 'laws.FnDiceAgain', WHERE WHAT IT READS IS OF BULK AT MOST 1048576: true; the input reads as it did. -/
def fnDiceAgainUptoRow : OpenClaim := { program := "ytbpefenbpfaeaaa", sum := "f6e699cb26976d62536236ee98e0d47860346cf3b1e20447c02eabd4b0757fef", func := "loop.example/g00851/laws.FnDiceAgain", spec := "fnDiceAgain", unfollowed := true, recurses := true, apart := false, narrowed := true }
def FnDiceAgainUptoSaid : Prop := fnDiceAgainUptoRow.holds Try.pinned (OpenSpec.upto fnDiceAgainSpec)

/-- 'laws.FnShuffles', WHERE WHAT IT READS IS OF BULK AT MOST 1048576: true; the input reads as it did. -/
def fnShufflesUptoRow : OpenClaim := { program := "ytbpefenbpfaeaaa", sum := "f6e699cb26976d62536236ee98e0d47860346cf3b1e20447c02eabd4b0757fef", func := "loop.example/g00851/laws.FnShuffles", spec := "fnShuffles", unfollowed := true, recurses := true, apart := false, narrowed := true }
def FnShufflesUptoSaid : Prop := fnShufflesUptoRow.holds Try.pinned (OpenSpec.upto fnShufflesSpec)

/-- 'laws.FnExactDiceOk', WHERE WHAT IT READS IS OF BULK AT MOST 1048576: true; the input reads as it did. -/
def fnExactDiceOkUptoRow : OpenClaim := { program := "ytbpefenbpfaeaaa", sum := "f6e699cb26976d62536236ee98e0d47860346cf3b1e20447c02eabd4b0757fef", func := "loop.example/g00851/laws.FnExactDiceOk", spec := "fnExactDiceOk", apart := false, narrowed := true }
def FnExactDiceOkUptoSaid : Prop := fnExactDiceOkUptoRow.holds Try.pinned (OpenSpec.upto fnExactDiceOkSpec)

/-- 'laws.FnExactDiceOf', WHERE WHAT IT READS IS OF BULK AT MOST 1048576: true; the input reads as it did. -/
def fnExactDiceOfUptoRow : OpenClaim := { program := "ytbpefenbpfaeaaa", sum := "f6e699cb26976d62536236ee98e0d47860346cf3b1e20447c02eabd4b0757fef", func := "loop.example/g00851/laws.FnExactDiceOf", spec := "fnExactDiceOf", apart := false, narrowed := true }
def FnExactDiceOfUptoSaid : Prop := fnExactDiceOfUptoRow.holds Try.pinned (OpenSpec.upto fnExactDiceOfSpec)

/-- 'laws.FnExactRolled', WHERE WHAT IT READS IS OF BULK AT MOST 1048576: true; the input reads as it did. -/
def fnExactRolledUptoRow : OpenClaim := { program := "ytbpefenbpfaeaaa", sum := "f6e699cb26976d62536236ee98e0d47860346cf3b1e20447c02eabd4b0757fef", func := "loop.example/g00851/laws.FnExactRolled", spec := "fnExactRolled", unfollowed := true, recurses := true, apart := false, narrowed := true }
def FnExactRolledUptoSaid : Prop := fnExactRolledUptoRow.holds Try.pinned (OpenSpec.upto fnExactRolledSpec)

/-- 'laws.FnExactUnder', WHERE WHAT IT READS IS OF BULK AT MOST 1048576: true; the input reads as it did. -/
def fnExactUnderUptoRow : OpenClaim := { program := "ytbpefenbpfaeaaa", sum := "f6e699cb26976d62536236ee98e0d47860346cf3b1e20447c02eabd4b0757fef", func := "loop.example/g00851/laws.FnExactUnder", spec := "fnExactUnder", unfollowed := true, recurses := true, apart := false, narrowed := true }
def FnExactUnderUptoSaid : Prop := fnExactUnderUptoRow.holds Try.pinned (OpenSpec.upto fnExactUnderSpec)

/-- 'laws.FnExactSpread', WHERE WHAT IT READS IS OF BULK AT MOST 1048576: true; the input reads as it did. -/
def fnExactSpreadUptoRow : OpenClaim := { program := "ytbpefenbpfaeaaa", sum := "f6e699cb26976d62536236ee98e0d47860346cf3b1e20447c02eabd4b0757fef", func := "loop.example/g00851/laws.FnExactSpread", spec := "fnExactSpread", unfollowed := true, recurses := true, apart := false, narrowed := true }
def FnExactSpreadUptoSaid : Prop := fnExactSpreadUptoRow.holds Try.pinned (OpenSpec.upto fnExactSpreadSpec)

/-- 'laws.FnExactShuffled', WHERE WHAT IT READS IS OF BULK AT MOST 1048576: true; the input reads as it did. -/
def fnExactShuffledUptoRow : OpenClaim := { program := "ytbpefenbpfaeaaa", sum := "f6e699cb26976d62536236ee98e0d47860346cf3b1e20447c02eabd4b0757fef", func := "loop.example/g00851/laws.FnExactShuffled", spec := "fnExactShuffled", unfollowed := true, recurses := true, apart := false, narrowed := true }
def FnExactShuffledUptoSaid : Prop := fnExactShuffledUptoRow.holds Try.pinned (OpenSpec.upto fnExactShuffledSpec)

end Rows
end Go.Proofs.Ytbpefenbpfaeaaa

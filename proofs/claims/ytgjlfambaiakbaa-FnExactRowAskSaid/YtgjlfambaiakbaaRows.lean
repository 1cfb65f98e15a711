/-
  No cell of these rows narrows 'for every input' (looked for: loops, veiled, ifaces, maps, wideKeys, modest, calm, conditions, laid).
  DERIVED. THE GIVEN ROWS OF THIS SEAT. 6 by the template 'for every input the law returns true; each argument reads behind the call as it read before'; 0 by the template 'total and deterministic' (their statements: YtgjlfambaiakbaaTotals.lean).
  GIVEN WITH THE SEED: the statements are not yours to turn. If you find one false, say at which input.
  Laid BY PROGRAM, IN A SANDBOX (cutbox-rows.mjs): the forced cells as the released guide's own fill.sh prints them over the translation 62e7ed037f515fbd… (all of the seat's roots in one cut). By AI agents, Wed Nov 11 2026. No macro, syntax, notation, axiom, sorry.
-/
import Derived.Test.YtgjlfambaiakbaaChecked
import GoSem.Claim
import GoSem.ClaimJoined
import GoSem.ClaimMapViews
import Derived.JoinedTies
import Derived.KernelRfl
namespace Go.Proofs.Ytgjlfambaiakbaa
/- THE CELL 'sum', in the pinned program and in every row, IS THE sha256 OF THE DUMP (.gsa) THAT YtgjlfambaiakbaaProg.lean LOADS. Nothing in Lean hashes anything: it is a label: what it is worth is what the hold of that sum in a sandbox is worth. -/
noncomputable def Try.pinned : Pinned := { name := "ytgjlfambaiakbaa", sum := "62e7ed037f515fbdbec876b189d5969e9720da14643afb32e12f43316e6edaa5", checked := Try.checked }
namespace Rows
def none {H : Type} : Left H := { results := [], args := [] }

/-- 'laws.FnExactRowAsk': WHATEVER THE INPUT: true; the input reads as it did. -/
def fnExactRowAskSpec : ChangeSpec := { name := "fnExactRowAsk", fn := fun _ => fun
  | [d] => { results := [.lit (.bool true)], args := [d] }
  | _ => none }
def fnExactRowAskRow : OpenClaim := { program := "ytgjlfambaiakbaa", sum := "62e7ed037f515fbdbec876b189d5969e9720da14643afb32e12f43316e6edaa5", func := "loop.example/g00851/laws.FnExactRowAsk", spec := "fnExactRowAsk", unfollowed := true, recurses := true, apart := false }
def FnExactRowAskSaid : Prop := fnExactRowAskRow.holds Try.pinned (OpenSpec.ofChange fnExactRowAskSpec)

/-- ITS FALSE NEIGHBOUR: 'it returns false'. Refute it at one input. -/
def fnExactRowAskWrong : ChangeSpec := { name := "fnExactRowAsk", fn := fun _ => fun
  | [d] => { results := [.lit (.bool false)], args := [d] }
  | _ => none }
def FnExactRowAskWrongFalsely : Prop := fnExactRowAskRow.holds Try.pinned (OpenSpec.ofChange fnExactRowAskWrong)

/-- 'laws.FnExactRowAck': WHATEVER THE INPUT: true; the input reads as it did. -/
def fnExactRowAckSpec : ChangeSpec := { name := "fnExactRowAck", fn := fun _ => fun
  | [d] => { results := [.lit (.bool true)], args := [d] }
  | _ => none }
def fnExactRowAckRow : OpenClaim := { program := "ytgjlfambaiakbaa", sum := "62e7ed037f515fbdbec876b189d5969e9720da14643afb32e12f43316e6edaa5", func := "loop.example/g00851/laws.FnExactRowAck", spec := "fnExactRowAck", unfollowed := true, recurses := true, apart := false }
def FnExactRowAckSaid : Prop := fnExactRowAckRow.holds Try.pinned (OpenSpec.ofChange fnExactRowAckSpec)

/-- ITS FALSE NEIGHBOUR: 'it returns false'. Refute it at one input. -/
def fnExactRowAckWrong : ChangeSpec := { name := "fnExactRowAck", fn := fun _ => fun
  | [d] => { results := [.lit (.bool false)], args := [d] }
  | _ => none }
def FnExactRowAckWrongFalsely : Prop := fnExactRowAckRow.holds Try.pinned (OpenSpec.ofChange fnExactRowAckWrong)

/-- 'laws.FnExactRowFetch': WHATEVER THE INPUT: true; the input reads as it did. -/
def fnExactRowFetchSpec : ChangeSpec := { name := "fnExactRowFetch", fn := fun _ => fun
  | [d] => { results := [.lit (.bool true)], args := [d] }
  | _ => none }
def fnExactRowFetchRow : OpenClaim := { program := "ytgjlfambaiakbaa", sum := "62e7ed037f515fbdbec876b189d5969e9720da14643afb32e12f43316e6edaa5", func := "loop.example/g00851/laws.FnExactRowFetch", spec := "fnExactRowFetch", unfollowed := true, recurses := true, apart := false }
def FnExactRowFetchSaid : Prop := fnExactRowFetchRow.holds Try.pinned (OpenSpec.ofChange fnExactRowFetchSpec)

/-- ITS FALSE NEIGHBOUR: 'it returns false'. Refute it at one input. -/
def fnExactRowFetchWrong : ChangeSpec := { name := "fnExactRowFetch", fn := fun _ => fun
  | [d] => { results := [.lit (.bool false)], args := [d] }
  | _ => none }
def FnExactRowFetchWrongFalsely : Prop := fnExactRowFetchRow.holds Try.pinned (OpenSpec.ofChange fnExactRowFetchWrong)

/-- 'laws.FnExactRowTrim': WHATEVER THE INPUT: true; the input reads as it did. -/
def fnExactRowTrimSpec : ChangeSpec := { name := "fnExactRowTrim", fn := fun _ => fun
  | [d] => { results := [.lit (.bool true)], args := [d] }
  | _ => none }
def fnExactRowTrimRow : OpenClaim := { program := "ytgjlfambaiakbaa", sum := "62e7ed037f515fbdbec876b189d5969e9720da14643afb32e12f43316e6edaa5", func := "loop.example/g00851/laws.FnExactRowTrim", spec := "fnExactRowTrim", unfollowed := true, recurses := true, apart := false }
def FnExactRowTrimSaid : Prop := fnExactRowTrimRow.holds Try.pinned (OpenSpec.ofChange fnExactRowTrimSpec)

/-- ITS FALSE NEIGHBOUR: 'it returns false'. Refute it at one input. -/
def fnExactRowTrimWrong : ChangeSpec := { name := "fnExactRowTrim", fn := fun _ => fun
  | [d] => { results := [.lit (.bool false)], args := [d] }
  | _ => none }
def FnExactRowTrimWrongFalsely : Prop := fnExactRowTrimRow.holds Try.pinned (OpenSpec.ofChange fnExactRowTrimWrong)

/-- 'laws.FnExactRowRead': WHATEVER THE INPUT: true; the input reads as it did. -/
def fnExactRowReadSpec : ChangeSpec := { name := "fnExactRowRead", fn := fun _ => fun
  | [d] => { results := [.lit (.bool true)], args := [d] }
  | _ => none }
def fnExactRowReadRow : OpenClaim := { program := "ytgjlfambaiakbaa", sum := "62e7ed037f515fbdbec876b189d5969e9720da14643afb32e12f43316e6edaa5", func := "loop.example/g00851/laws.FnExactRowRead", spec := "fnExactRowRead", unfollowed := true, recurses := true, apart := false }
def FnExactRowReadSaid : Prop := fnExactRowReadRow.holds Try.pinned (OpenSpec.ofChange fnExactRowReadSpec)

/-- ITS FALSE NEIGHBOUR: 'it returns false'. Refute it at one input. -/
def fnExactRowReadWrong : ChangeSpec := { name := "fnExactRowRead", fn := fun _ => fun
  | [d] => { results := [.lit (.bool false)], args := [d] }
  | _ => none }
def FnExactRowReadWrongFalsely : Prop := fnExactRowReadRow.holds Try.pinned (OpenSpec.ofChange fnExactRowReadWrong)

/-- 'laws.FnExactRowValue': WHATEVER THE INPUT: true; the input reads as it did. -/
def fnExactRowValueSpec : ChangeSpec := { name := "fnExactRowValue", fn := fun _ => fun
  | [d] => { results := [.lit (.bool true)], args := [d] }
  | _ => none }
def fnExactRowValueRow : OpenClaim := { program := "ytgjlfambaiakbaa", sum := "62e7ed037f515fbdbec876b189d5969e9720da14643afb32e12f43316e6edaa5", func := "loop.example/g00851/laws.FnExactRowValue", spec := "fnExactRowValue", unfollowed := true, recurses := true, apart := false }
def FnExactRowValueSaid : Prop := fnExactRowValueRow.holds Try.pinned (OpenSpec.ofChange fnExactRowValueSpec)

/-- ITS FALSE NEIGHBOUR: 'it returns false'. Refute it at one input. -/
def fnExactRowValueWrong : ChangeSpec := { name := "fnExactRowValue", fn := fun _ => fun
  | [d] => { results := [.lit (.bool false)], args := [d] }
  | _ => none }
def FnExactRowValueWrongFalsely : Prop := fnExactRowValueRow.holds Try.pinned (OpenSpec.ofChange fnExactRowValueWrong)

/- THE SECOND FORM. 'bulk': how many values and letters a reading holds, each counted each time it is reached (what is shared counts as often as it is met; a slice's spare places count too). A statement '..UptoSaid' is the law's where the arguments, and the package variables that the reading takes, are together of bulk at most 1048576: NARROWER than '..Said'. Prove '..Said' where nothing that the law and all that it calls make is longer than what came in: it says more and counts as full. Else prove '..UptoSaid'. A law counts once. -/
mutual
def uptoBulk {H : Type} : DataW H → Nat
  | .lit (.string bytes) => bytes.length + 1
  | .lit _ => 1
  | .nil => 1
  | .ptr d => uptoBulk d + 1
  | .slice elems spare => uptoBulkAll elems + uptoBulkAll spare + 1
  | .agg parts => uptoBulkAll parts + 1
  | .iface _ d => uptoBulk d + 1
  | .map entries => uptoBulkEntries entries + 1
  | .held _ => 1
def uptoBulkAll {H : Type} : List (DataW H) → Nat
  | [] => 0
  | d :: r => uptoBulk d + uptoBulkAll r
def uptoBulkEntries {H : Type} : List (Lit × DataW H) → Nat
  | [] => 0
  | x :: r => uptoBulkEntry x + uptoBulkEntries r
def uptoBulkEntry {H : Type} : Lit × DataW H → Nat
  | (.string bytes, d) => bytes.length + uptoBulk d + 1
  | (_, d) => uptoBulk d + 1
 end
def uptoSmall : (H : Type) → List (DataW H) → Bool := fun _ ds => decide (uptoBulkAll ds ≤ 1048576)
def OpenSpec.upto (s : _root_.Go.ChangeSpec) : _root_.Go.OpenSpec := { _root_.Go.OpenSpec.ofChange s with cond := some uptoSmall }

/-- 'laws.FnExactRowAsk', WHERE WHAT IT READS IS OF BULK AT MOST 1048576: true; the input reads as it did. -/
def fnExactRowAskUptoRow : OpenClaim := { program := "ytgjlfambaiakbaa", sum := "62e7ed037f515fbdbec876b189d5969e9720da14643afb32e12f43316e6edaa5", func := "loop.example/g00851/laws.FnExactRowAsk", spec := "fnExactRowAsk", unfollowed := true, recurses := true, apart := false, narrowed := true }
def FnExactRowAskUptoSaid : Prop := fnExactRowAskUptoRow.holds Try.pinned (OpenSpec.upto fnExactRowAskSpec)

/-- 'laws.FnExactRowAck', WHERE WHAT IT READS IS OF BULK AT MOST 1048576: true; the input reads as it did. -/
def fnExactRowAckUptoRow : OpenClaim := { program := "ytgjlfambaiakbaa", sum := "62e7ed037f515fbdbec876b189d5969e9720da14643afb32e12f43316e6edaa5", func := "loop.example/g00851/laws.FnExactRowAck", spec := "fnExactRowAck", unfollowed := true, recurses := true, apart := false, narrowed := true }
def FnExactRowAckUptoSaid : Prop := fnExactRowAckUptoRow.holds Try.pinned (OpenSpec.upto fnExactRowAckSpec)

/-- 'laws.FnExactRowFetch', WHERE WHAT IT READS IS OF BULK AT MOST 1048576: true; the input reads as it did. -/
def fnExactRowFetchUptoRow : OpenClaim := { program := "ytgjlfambaiakbaa", sum := "62e7ed037f515fbdbec876b189d5969e9720da14643afb32e12f43316e6edaa5", func := "loop.example/g00851/laws.FnExactRowFetch", spec := "fnExactRowFetch", unfollowed := true, recurses := true, apart := false, narrowed := true }
def FnExactRowFetchUptoSaid : Prop := fnExactRowFetchUptoRow.holds Try.pinned (OpenSpec.upto fnExactRowFetchSpec)

/-- 'laws.FnExactRowTrim', WHERE WHAT IT READS IS OF BULK AT MOST 1048576: true; the input reads as it did. -/
def fnExactRowTrimUptoRow : OpenClaim := { program := "ytgjlfambaiakbaa", sum := "62e7ed037f515fbdbec876b189d5969e9720da14643afb32e12f43316e6edaa5", func := "loop.example/g00851/laws.FnExactRowTrim", spec := "fnExactRowTrim", unfollowed := true, recurses := true, apart := false, narrowed := true }
def FnExactRowTrimUptoSaid : Prop := fnExactRowTrimUptoRow.holds Try.pinned (OpenSpec.upto fnExactRowTrimSpec)

/-- 'laws.FnExactRowRead', WHERE WHAT IT READS IS OF BULK AT MOST 1048576: true; the input reads as it did. -/
def fnExactRowReadUptoRow : OpenClaim := { program := "ytgjlfambaiakbaa", sum := "62e7ed037f515fbdbec876b189d5969e9720da14643afb32e12f43316e6edaa5", func := "loop.example/g00851/laws.FnExactRowRead", spec := "fnExactRowRead", unfollowed := true, recurses := true, apart := false, narrowed := true }
def FnExactRowReadUptoSaid : Prop := fnExactRowReadUptoRow.holds Try.pinned (OpenSpec.upto fnExactRowReadSpec)

/-- 'laws.FnExactRowValue', WHERE WHAT IT READS IS OF BULK AT MOST 1048576: true; the input reads as it did. -/
def fnExactRowValueUptoRow : OpenClaim := { program := "ytgjlfambaiakbaa", sum := "62e7ed037f515fbdbec876b189d5969e9720da14643afb32e12f43316e6edaa5", func := "loop.example/g00851/laws.FnExactRowValue", spec := "fnExactRowValue", unfollowed := true, recurses := true, apart := false, narrowed := true }
def FnExactRowValueUptoSaid : Prop := fnExactRowValueUptoRow.holds Try.pinned (OpenSpec.upto fnExactRowValueSpec)

end Rows
end Go.Proofs.Ytgjlfambaiakbaa

/-
  No cell of these rows narrows 'for every input' (looked for: loops, veiled, ifaces, maps, wideKeys, modest, calm, conditions, laid).
  DERIVED. THE GIVEN ROWS OF THIS SEAT. 6 by the template 'for every input the law returns true; each argument reads behind the call as it read before'; 0 by the template 'total and deterministic' (their statements: YtafbjmhjjbfaeaaTotals.lean).
  GIVEN WITH THE SEED: the statements are not yours to turn. If you find one false, say at which input.
  Laid BY PROGRAM, IN A SANDBOX (cutbox-rows.mjs): the forced cells as the released guide's own fill.sh prints them over the translation 8da7e4483d21eb19… (all of the seat's roots in one cut). By AI agents, Wed Nov 11 2026. No macro, syntax, notation, axiom, sorry.
-/
import Derived.Test.YtafbjmhjjbfaeaaChecked
import GoSem.Claim
import GoSem.ClaimJoined
import GoSem.ClaimMapViews
import Derived.JoinedTies
import Derived.KernelRfl
namespace Go.Proofs.Ytafbjmhjjbfaeaa
/- THE CELL 'sum', in the pinned program and in every row, IS THE sha256 OF THE DUMP (.gsa) THAT YtafbjmhjjbfaeaaProg.lean LOADS. Nothing in Lean hashes anything: it is a label: what it is worth is what the hold of that sum in a sandbox is worth. -/
noncomputable def Try.pinned : Pinned := { name := "ytafbjmhjjbfaeaa", sum := "8da7e4483d21eb1901d4aca63ce66239d0f00bd49b95d15a19023ff8ac05b0b9", checked := Try.checked }
namespace Rows
def none {H : Type} : Left H := { results := [], args := [] }

/-- 'laws.FnExactPollRow': WHATEVER THE INPUT: true; the input reads as it did. -/
def fnExactPollRowSpec : ChangeSpec := { name := "fnExactPollRow", fn := fun _ => fun
  | [d] => { results := [.lit (.bool true)], args := [d] }
  | _ => none }
def fnExactPollRowRow : OpenClaim := { program := "ytafbjmhjjbfaeaa", sum := "8da7e4483d21eb1901d4aca63ce66239d0f00bd49b95d15a19023ff8ac05b0b9", func := "loop.example/g00851/laws.FnExactPollRow", spec := "fnExactPollRow", unfollowed := true, recurses := true, apart := false }
def FnExactPollRowSaid : Prop := fnExactPollRowRow.holds Try.pinned (OpenSpec.ofChange fnExactPollRowSpec)

/-- ITS FALSE NEIGHBOUR: 'it returns false'. Refute it at one input. -/
def fnExactPollRowWrong : ChangeSpec := { name := "fnExactPollRow", fn := fun _ => fun
  | [d] => { results := [.lit (.bool false)], args := [d] }
  | _ => none }
def FnExactPollRowWrongFalsely : Prop := fnExactPollRowRow.holds Try.pinned (OpenSpec.ofChange fnExactPollRowWrong)

/-- 'laws.FnExactRowPoll': WHATEVER THE INPUT: true; the input reads as it did. -/
def fnExactRowPollSpec : ChangeSpec := { name := "fnExactRowPoll", fn := fun _ => fun
  | [d] => { results := [.lit (.bool true)], args := [d] }
  | _ => none }
def fnExactRowPollRow : OpenClaim := { program := "ytafbjmhjjbfaeaa", sum := "8da7e4483d21eb1901d4aca63ce66239d0f00bd49b95d15a19023ff8ac05b0b9", func := "loop.example/g00851/laws.FnExactRowPoll", spec := "fnExactRowPoll", unfollowed := true, recurses := true, apart := false }
def FnExactRowPollSaid : Prop := fnExactRowPollRow.holds Try.pinned (OpenSpec.ofChange fnExactRowPollSpec)

/-- ITS FALSE NEIGHBOUR: 'it returns false'. Refute it at one input. -/
def fnExactRowPollWrong : ChangeSpec := { name := "fnExactRowPoll", fn := fun _ => fun
  | [d] => { results := [.lit (.bool false)], args := [d] }
  | _ => none }
def FnExactRowPollWrongFalsely : Prop := fnExactRowPollRow.holds Try.pinned (OpenSpec.ofChange fnExactRowPollWrong)

/-- 'laws.FnExactFeedOk': WHATEVER THE INPUT: true; the input reads as it did. -/
def fnExactFeedOkSpec : ChangeSpec := { name := "fnExactFeedOk", fn := fun _ => fun
  | [d] => { results := [.lit (.bool true)], args := [d] }
  | _ => none }
def fnExactFeedOkRow : OpenClaim := { program := "ytafbjmhjjbfaeaa", sum := "8da7e4483d21eb1901d4aca63ce66239d0f00bd49b95d15a19023ff8ac05b0b9", func := "loop.example/g00851/laws.FnExactFeedOk", spec := "fnExactFeedOk", apart := false }
def FnExactFeedOkSaid : Prop := fnExactFeedOkRow.holds Try.pinned (OpenSpec.ofChange fnExactFeedOkSpec)

/-- ITS FALSE NEIGHBOUR: 'it returns false'. Refute it at one input. -/
def fnExactFeedOkWrong : ChangeSpec := { name := "fnExactFeedOk", fn := fun _ => fun
  | [d] => { results := [.lit (.bool false)], args := [d] }
  | _ => none }
def FnExactFeedOkWrongFalsely : Prop := fnExactFeedOkRow.holds Try.pinned (OpenSpec.ofChange fnExactFeedOkWrong)

/-- 'laws.FnExactFeedRow': WHATEVER THE INPUT: true; the input reads as it did. -/
def fnExactFeedRowSpec : ChangeSpec := { name := "fnExactFeedRow", fn := fun _ => fun
  | [d] => { results := [.lit (.bool true)], args := [d] }
  | _ => none }
def fnExactFeedRowRow : OpenClaim := { program := "ytafbjmhjjbfaeaa", sum := "8da7e4483d21eb1901d4aca63ce66239d0f00bd49b95d15a19023ff8ac05b0b9", func := "loop.example/g00851/laws.FnExactFeedRow", spec := "fnExactFeedRow", unfollowed := true, recurses := true, apart := false }
def FnExactFeedRowSaid : Prop := fnExactFeedRowRow.holds Try.pinned (OpenSpec.ofChange fnExactFeedRowSpec)

/-- ITS FALSE NEIGHBOUR: 'it returns false'. Refute it at one input. -/
def fnExactFeedRowWrong : ChangeSpec := { name := "fnExactFeedRow", fn := fun _ => fun
  | [d] => { results := [.lit (.bool false)], args := [d] }
  | _ => none }
def FnExactFeedRowWrongFalsely : Prop := fnExactFeedRowRow.holds Try.pinned (OpenSpec.ofChange fnExactFeedRowWrong)

/-- 'laws.FnExactJobsRow': WHATEVER THE INPUT: true; the input reads as it did. -/
def fnExactJobsRowSpec : ChangeSpec := { name := "fnExactJobsRow", fn := fun _ => fun
  | [d] => { results := [.lit (.bool true)], args := [d] }
  | _ => none }
def fnExactJobsRowRow : OpenClaim := { program := "ytafbjmhjjbfaeaa", sum := "8da7e4483d21eb1901d4aca63ce66239d0f00bd49b95d15a19023ff8ac05b0b9", func := "loop.example/g00851/laws.FnExactJobsRow", spec := "fnExactJobsRow", unfollowed := true, recurses := true, apart := false }
def FnExactJobsRowSaid : Prop := fnExactJobsRowRow.holds Try.pinned (OpenSpec.ofChange fnExactJobsRowSpec)

/-- ITS FALSE NEIGHBOUR: 'it returns false'. Refute it at one input. -/
def fnExactJobsRowWrong : ChangeSpec := { name := "fnExactJobsRow", fn := fun _ => fun
  | [d] => { results := [.lit (.bool false)], args := [d] }
  | _ => none }
def FnExactJobsRowWrongFalsely : Prop := fnExactJobsRowRow.holds Try.pinned (OpenSpec.ofChange fnExactJobsRowWrong)

/-- 'laws.FnExactRowFeed': WHATEVER THE INPUT: true; the input reads as it did. -/
def fnExactRowFeedSpec : ChangeSpec := { name := "fnExactRowFeed", fn := fun _ => fun
  | [d] => { results := [.lit (.bool true)], args := [d] }
  | _ => none }
def fnExactRowFeedRow : OpenClaim := { program := "ytafbjmhjjbfaeaa", sum := "8da7e4483d21eb1901d4aca63ce66239d0f00bd49b95d15a19023ff8ac05b0b9", func := "loop.example/g00851/laws.FnExactRowFeed", spec := "fnExactRowFeed", unfollowed := true, recurses := true, apart := false }
def FnExactRowFeedSaid : Prop := fnExactRowFeedRow.holds Try.pinned (OpenSpec.ofChange fnExactRowFeedSpec)

/-- ITS FALSE NEIGHBOUR: 'it returns false'. Refute it at one input. -/
def fnExactRowFeedWrong : ChangeSpec := { name := "fnExactRowFeed", fn := fun _ => fun
  | [d] => { results := [.lit (.bool false)], args := [d] }
  | _ => none }
def FnExactRowFeedWrongFalsely : Prop := fnExactRowFeedRow.holds Try.pinned (OpenSpec.ofChange fnExactRowFeedWrong)

/- THE SECOND FORM. 'bulk': how many values and letters a reading holds, each counted each time it is reached (what is shared counts as often as it is met; a slice's spare places count too). A statement '..UptoSaid' is the law's where the arguments, and the package variables that the reading takes, are together of bulk at most 1048576: NARROWER than '..Said'. Prove '..Said' where nothing that the law and all that it calls make is longer than what came in: it says more and counts as full. Else prove '..UptoSaid'. A law counts once. -/
mutual
def uptoBulk {H : Type} : DataW H → Nat
  | .lit (.string bytes) => bytes.length + 1
  | .lit _ => 1
  | .nil => 1
  | .ptr d => uptoBulk d + 1
  | .slice elems spare => uptoBulkAll elems + uptoBulkAll spare + 1
  | .agg parts => uptoBulkAll parts + 1
  | .iface _ d => uptoBulk d + 1
  | .map entries => uptoBulkEntries entries + 1
  | .held _ => 1
def uptoBulkAll {H : Type} : List (DataW H) → Nat
  | [] => 0
  | d :: r => uptoBulk d + uptoBulkAll r
def uptoBulkEntries {H : Type} : List (Lit × DataW H) → Nat
  | [] => 0
  | x :: r => uptoBulkEntry x + uptoBulkEntries r
def uptoBulkEntry {H : Type} : Lit × DataW H → Nat
  | (.string bytes, d) => bytes.length + uptoBulk d + 1
  | (_, d) => uptoBulk d + 1
 end
def uptoSmall : (H : Type) → List (DataW H) → Bool := fun _ ds => decide (uptoBulkAll ds ≤ 1048576)
def OpenSpec.upto (s : _root_.Go.ChangeSpec) : _root_.Go.OpenSpec := { _root_.Go.OpenSpec.ofChange s with cond := some uptoSmall }

/-- 'laws.FnExactPollRow', WHERE WHAT IT READS IS OF BULK AT MOST 1048576: true; the input reads as it did. -/
def fnExactPollRowUptoRow : OpenClaim := { program := "ytafbjmhjjbfaeaa", sum := "8da7e4483d21eb1901d4aca63ce66239d0f00bd49b95d15a19023ff8ac05b0b9", func := "loop.example/g00851/laws.FnExactPollRow", spec := "fnExactPollRow", unfollowed := true, recurses := true, apart := false, narrowed := true }
def FnExactPollRowUptoSaid : Prop := fnExactPollRowUptoRow.holds Try.pinned (OpenSpec.upto fnExactPollRowSpec)

/-- 'laws.FnExactRowPoll', WHERE WHAT IT READS IS OF BULK AT MOST 1048576: true; the input reads as it did. -/
def fnExactRowPollUptoRow : OpenClaim := { program := "ytafbjmhjjbfaeaa", sum := "8da7e4483d21eb1901d4aca63ce66239d0f00bd49b95d15a19023ff8ac05b0b9", func := "loop.example/g00851/laws.FnExactRowPoll", spec := "fnExactRowPoll", unfollowed := true, recurses := true, apart := false, narrowed := true }
def FnExactRowPollUptoSaid : Prop := fnExactRowPollUptoRow.holds Try.pinned (OpenSpec.upto fnExactRowPollSpec)

/-- 'laws.FnExactFeedOk', WHERE WHAT IT READS IS OF BULK AT MOST 1048576: true; the input reads as it did. -/
def fnExactFeedOkUptoRow : OpenClaim := { program := "ytafbjmhjjbfaeaa", sum := "8da7e4483d21eb1901d4aca63ce66239d0f00bd49b95d15a19023ff8ac05b0b9", func := "loop.example/g00851/laws.FnExactFeedOk", spec := "fnExactFeedOk", apart := false, narrowed := true }
def FnExactFeedOkUptoSaid : Prop := fnExactFeedOkUptoRow.holds Try.pinned (OpenSpec.upto fnExactFeedOkSpec)

/-- 'laws.FnExactFeedRow', WHERE WHAT IT READS IS OF BULK AT MOST 1048576: true; the input reads as it did. -/
def fnExactFeedRowUptoRow : OpenClaim := { program := "ytafbjmhjjbfaeaa", sum := "8da7e4483d21eb1901d4aca63ce66239d0f00bd49b95d15a19023ff8ac05b0b9", func := "loop.example/g00851/laws.FnExactFeedRow", spec := "fnExactFeedRow", unfollowed := true, recurses := true, apart := false, narrowed := true }
def FnExactFeedRowUptoSaid : Prop := fnExactFeedRowUptoRow.holds Try.pinned (OpenSpec.upto fnExactFeedRowSpec)

/-- 'laws.FnExactJobsRow', WHERE WHAT IT READS IS OF BULK AT MOST 1048576: true; the input reads as it did. -/
def fnExactJobsRowUptoRow : OpenClaim := { program := "ytafbjmhjjbfaeaa", sum := "8da7e4483d21eb1901d4aca63ce66239d0f00bd49b95d15a19023ff8ac05b0b9", func := "loop.example/g00851/laws.FnExactJobsRow", spec := "fnExactJobsRow", unfollowed := true, recurses := true, apart := false, narrowed := true }
def FnExactJobsRowUptoSaid : Prop := fnExactJobsRowUptoRow.holds Try.pinned (OpenSpec.upto fnExactJobsRowSpec)

/-- 'laws.FnExactRowFeed', WHERE WHAT IT READS IS OF BULK AT MOST 1048576: true; the input reads as it did. -/
def fnExactRowFeedUptoRow : OpenClaim := { program := "ytafbjmhjjbfaeaa", sum := "8da7e4483d21eb1901d4aca63ce66239d0f00bd49b95d15a19023ff8ac05b0b9", func := "loop.example/g00851/laws.FnExactRowFeed", spec := "fnExactRowFeed", unfollowed := true, recurses := true, apart := false, narrowed := true }
def FnExactRowFeedUptoSaid : Prop := fnExactRowFeedUptoRow.holds Try.pinned (OpenSpec.upto fnExactRowFeedSpec)

end Rows
end Go.Proofs.Ytafbjmhjjbfaeaa

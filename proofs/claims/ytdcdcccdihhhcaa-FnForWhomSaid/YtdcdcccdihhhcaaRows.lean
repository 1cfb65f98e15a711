/-
  No cell of these rows narrows 'for every input' (looked for: loops, veiled, ifaces, maps, wideKeys, modest, calm, conditions, laid).
  DERIVED. THE GIVEN ROWS OF THIS SEAT. 15 by the template 'for every input the law returns true; each argument reads behind the call as it read before'; 0 by the template 'total and deterministic' (their statements: YtdcdcccdihhhcaaTotals.lean).
  GIVEN WITH THE SEED: the statements are not yours to turn. If you find one false, say at which input.
  Laid BY PROGRAM, IN A SANDBOX (cutbox-rows.mjs): the forced cells as the released guide's own fill.sh prints them over the translation 94eafdac38589aec… (all of the seat's roots in one cut). By AI agents, Wed Nov 11 2026. No macro, syntax, notation, axiom, sorry.
-/
import Derived.Test.YtdcdcccdihhhcaaChecked
import GoSem.Claim
import GoSem.ClaimJoined
import GoSem.ClaimMapViews
import Derived.JoinedTies
import Derived.KernelRfl
namespace Go.Proofs.Ytdcdcccdihhhcaa
/- THE CELL 'sum', in the pinned program and in every row, IS THE sha256 OF THE DUMP (.gsa) THAT YtdcdcccdihhhcaaProg.lean LOADS. Nothing in Lean hashes anything: it is a label: what it is worth is what the hold of that sum in a sandbox is worth. -/
noncomputable def Try.pinned : Pinned := { name := "ytdcdcccdihhhcaa", sum := "94eafdac38589aec0c09d72fecf3cc7276ff37947ddc55fa320d180a4f937b29", checked := Try.checked }
namespace Rows
def none {H : Type} : Left H := { results := [], args := [] }

/-- 'laws.FnLinks': WHATEVER THE INPUT: true; the input reads as it did. -/
def fnLinksSpec : ChangeSpec := { name := "fnLinks", fn := fun _ => fun
  | [d] => { results := [.lit (.bool true)], args := [d] }
  | _ => none }
def fnLinksRow : OpenClaim := { program := "ytdcdcccdihhhcaa", sum := "94eafdac38589aec0c09d72fecf3cc7276ff37947ddc55fa320d180a4f937b29", func := "loop.example/g00851/laws.FnLinks", spec := "fnLinks", apart := false }
def FnLinksSaid : Prop := fnLinksRow.holds Try.pinned (OpenSpec.ofChange fnLinksSpec)

/-- ITS FALSE NEIGHBOUR: 'it returns false'. Refute it at one input. -/
def fnLinksWrong : ChangeSpec := { name := "fnLinks", fn := fun _ => fun
  | [d] => { results := [.lit (.bool false)], args := [d] }
  | _ => none }
def FnLinksWrongFalsely : Prop := fnLinksRow.holds Try.pinned (OpenSpec.ofChange fnLinksWrong)

/-- 'laws.FnFlight': WHATEVER THE INPUT: true; the input reads as it did. -/
def fnFlightSpec : ChangeSpec := { name := "fnFlight", fn := fun _ => fun
  | [d] => { results := [.lit (.bool true)], args := [d] }
  | _ => none }
def fnFlightRow : OpenClaim := { program := "ytdcdcccdihhhcaa", sum := "94eafdac38589aec0c09d72fecf3cc7276ff37947ddc55fa320d180a4f937b29", func := "loop.example/g00851/laws.FnFlight", spec := "fnFlight", apart := false }
def FnFlightSaid : Prop := fnFlightRow.holds Try.pinned (OpenSpec.ofChange fnFlightSpec)

/-- ITS FALSE NEIGHBOUR: 'it returns false'. Refute it at one input. -/
def fnFlightWrong : ChangeSpec := { name := "fnFlight", fn := fun _ => fun
  | [d] => { results := [.lit (.bool false)], args := [d] }
  | _ => none }
def FnFlightWrongFalsely : Prop := fnFlightRow.holds Try.pinned (OpenSpec.ofChange fnFlightWrong)

/-- 'laws.FnForWhom': WHATEVER THE INPUT: true; the input reads as it did. -/
def fnForWhomSpec : ChangeSpec := { name := "fnForWhom", fn := fun _ => fun
  | [d] => { results := [.lit (.bool true)], args := [d] }
  | _ => none }
def fnForWhomRow : OpenClaim := { program := "ytdcdcccdihhhcaa", sum := "94eafdac38589aec0c09d72fecf3cc7276ff37947ddc55fa320d180a4f937b29", func := "loop.example/g00851/laws.FnForWhom", spec := "fnForWhom", apart := false }
def FnForWhomSaid : Prop := fnForWhomRow.holds Try.pinned (OpenSpec.ofChange fnForWhomSpec)

/-- ITS FALSE NEIGHBOUR: 'it returns false'. Refute it at one input. -/
def fnForWhomWrong : ChangeSpec := { name := "fnForWhom", fn := fun _ => fun
  | [d] => { results := [.lit (.bool false)], args := [d] }
  | _ => none }
def FnForWhomWrongFalsely : Prop := fnForWhomRow.holds Try.pinned (OpenSpec.ofChange fnForWhomWrong)

/-- 'laws.FnFullNet': WHATEVER THE INPUT: true; the input reads as it did. -/
def fnFullNetSpec : ChangeSpec := { name := "fnFullNet", fn := fun _ => fun
  | [d] => { results := [.lit (.bool true)], args := [d] }
  | _ => none }
def fnFullNetRow : OpenClaim := { program := "ytdcdcccdihhhcaa", sum := "94eafdac38589aec0c09d72fecf3cc7276ff37947ddc55fa320d180a4f937b29", func := "loop.example/g00851/laws.FnFullNet", spec := "fnFullNet", apart := false }
def FnFullNetSaid : Prop := fnFullNetRow.holds Try.pinned (OpenSpec.ofChange fnFullNetSpec)

/-- ITS FALSE NEIGHBOUR: 'it returns false'. Refute it at one input. -/
def fnFullNetWrong : ChangeSpec := { name := "fnFullNet", fn := fun _ => fun
  | [d] => { results := [.lit (.bool false)], args := [d] }
  | _ => none }
def FnFullNetWrongFalsely : Prop := fnFullNetRow.holds Try.pinned (OpenSpec.ofChange fnFullNetWrong)

/-- 'laws.FnExactMsgOk': WHATEVER THE INPUT: true; the input reads as it did. -/
def fnExactMsgOkSpec : ChangeSpec := { name := "fnExactMsgOk", fn := fun _ => fun
  | [d] => { results := [.lit (.bool true)], args := [d] }
  | _ => none }
def fnExactMsgOkRow : OpenClaim := { program := "ytdcdcccdihhhcaa", sum := "94eafdac38589aec0c09d72fecf3cc7276ff37947ddc55fa320d180a4f937b29", func := "loop.example/g00851/laws.FnExactMsgOk", spec := "fnExactMsgOk", apart := false }
def FnExactMsgOkSaid : Prop := fnExactMsgOkRow.holds Try.pinned (OpenSpec.ofChange fnExactMsgOkSpec)

/-- ITS FALSE NEIGHBOUR: 'it returns false'. Refute it at one input. -/
def fnExactMsgOkWrong : ChangeSpec := { name := "fnExactMsgOk", fn := fun _ => fun
  | [d] => { results := [.lit (.bool false)], args := [d] }
  | _ => none }
def FnExactMsgOkWrongFalsely : Prop := fnExactMsgOkRow.holds Try.pinned (OpenSpec.ofChange fnExactMsgOkWrong)

/-- 'laws.FnExactNetOk': WHATEVER THE INPUT: true; the input reads as it did. -/
def fnExactNetOkSpec : ChangeSpec := { name := "fnExactNetOk", fn := fun _ => fun
  | [d] => { results := [.lit (.bool true)], args := [d] }
  | _ => none }
def fnExactNetOkRow : OpenClaim := { program := "ytdcdcccdihhhcaa", sum := "94eafdac38589aec0c09d72fecf3cc7276ff37947ddc55fa320d180a4f937b29", func := "loop.example/g00851/laws.FnExactNetOk", spec := "fnExactNetOk", apart := false }
def FnExactNetOkSaid : Prop := fnExactNetOkRow.holds Try.pinned (OpenSpec.ofChange fnExactNetOkSpec)

/-- ITS FALSE NEIGHBOUR: 'it returns false'. Refute it at one input. -/
def fnExactNetOkWrong : ChangeSpec := { name := "fnExactNetOk", fn := fun _ => fun
  | [d] => { results := [.lit (.bool false)], args := [d] }
  | _ => none }
def FnExactNetOkWrongFalsely : Prop := fnExactNetOkRow.holds Try.pinned (OpenSpec.ofChange fnExactNetOkWrong)

/-- 'laws.FnExactPassesIn': WHATEVER THE INPUT: true; the input reads as it did. -/
def fnExactPassesInSpec : ChangeSpec := { name := "fnExactPassesIn", fn := fun _ => fun
  | [d1, d2, d3] => { results := [.lit (.bool true)], args := [d1, d2, d3] }
  | _ => none }
def fnExactPassesInRow : OpenClaim := { program := "ytdcdcccdihhhcaa", sum := "94eafdac38589aec0c09d72fecf3cc7276ff37947ddc55fa320d180a4f937b29", func := "loop.example/g00851/laws.FnExactPassesIn", spec := "fnExactPassesIn", apart := false }
def FnExactPassesInSaid : Prop := fnExactPassesInRow.holds Try.pinned (OpenSpec.ofChange fnExactPassesInSpec)

/-- ITS FALSE NEIGHBOUR: 'it returns false'. Refute it at one input. -/
def fnExactPassesInWrong : ChangeSpec := { name := "fnExactPassesIn", fn := fun _ => fun
  | [d1, d2, d3] => { results := [.lit (.bool false)], args := [d1, d2, d3] }
  | _ => none }
def FnExactPassesInWrongFalsely : Prop := fnExactPassesInRow.holds Try.pinned (OpenSpec.ofChange fnExactPassesInWrong)

/-- 'laws.FnExactSent': WHATEVER THE INPUT: true; the input reads as it did. -/
def fnExactSentSpec : ChangeSpec := { name := "fnExactSent", fn := fun _ => fun
  | [d1, d2] => { results := [.lit (.bool true)], args := [d1, d2] }
  | _ => none }
def fnExactSentRow : OpenClaim := { program := "ytdcdcccdihhhcaa", sum := "94eafdac38589aec0c09d72fecf3cc7276ff37947ddc55fa320d180a4f937b29", func := "loop.example/g00851/laws.FnExactSent", spec := "fnExactSent", apart := false }
def FnExactSentSaid : Prop := fnExactSentRow.holds Try.pinned (OpenSpec.ofChange fnExactSentSpec)

/-- ITS FALSE NEIGHBOUR: 'it returns false'. Refute it at one input. -/
def fnExactSentWrong : ChangeSpec := { name := "fnExactSent", fn := fun _ => fun
  | [d1, d2] => { results := [.lit (.bool false)], args := [d1, d2] }
  | _ => none }
def FnExactSentWrongFalsely : Prop := fnExactSentRow.holds Try.pinned (OpenSpec.ofChange fnExactSentWrong)

/-- 'laws.FnExactHanded': WHATEVER THE INPUT: true; the input reads as it did. -/
def fnExactHandedSpec : ChangeSpec := { name := "fnExactHanded", fn := fun _ => fun
  | [d1, d2] => { results := [.lit (.bool true)], args := [d1, d2] }
  | _ => none }
def fnExactHandedRow : OpenClaim := { program := "ytdcdcccdihhhcaa", sum := "94eafdac38589aec0c09d72fecf3cc7276ff37947ddc55fa320d180a4f937b29", func := "loop.example/g00851/laws.FnExactHanded", spec := "fnExactHanded", apart := false }
def FnExactHandedSaid : Prop := fnExactHandedRow.holds Try.pinned (OpenSpec.ofChange fnExactHandedSpec)

/-- ITS FALSE NEIGHBOUR: 'it returns false'. Refute it at one input. -/
def fnExactHandedWrong : ChangeSpec := { name := "fnExactHanded", fn := fun _ => fun
  | [d1, d2] => { results := [.lit (.bool false)], args := [d1, d2] }
  | _ => none }
def FnExactHandedWrongFalsely : Prop := fnExactHandedRow.holds Try.pinned (OpenSpec.ofChange fnExactHandedWrong)

/-- 'laws.FnExactLost': WHATEVER THE INPUT: true; the input reads as it did. -/
def fnExactLostSpec : ChangeSpec := { name := "fnExactLost", fn := fun _ => fun
  | [d1, d2] => { results := [.lit (.bool true)], args := [d1, d2] }
  | _ => none }
def fnExactLostRow : OpenClaim := { program := "ytdcdcccdihhhcaa", sum := "94eafdac38589aec0c09d72fecf3cc7276ff37947ddc55fa320d180a4f937b29", func := "loop.example/g00851/laws.FnExactLost", spec := "fnExactLost", apart := false }
def FnExactLostSaid : Prop := fnExactLostRow.holds Try.pinned (OpenSpec.ofChange fnExactLostSpec)

/-- ITS FALSE NEIGHBOUR: 'it returns false'. Refute it at one input. -/
def fnExactLostWrong : ChangeSpec := { name := "fnExactLost", fn := fun _ => fun
  | [d1, d2] => { results := [.lit (.bool false)], args := [d1, d2] }
  | _ => none }
def FnExactLostWrongFalsely : Prop := fnExactLostRow.holds Try.pinned (OpenSpec.ofChange fnExactLostWrong)

/-- 'laws.FnExactDoubled': WHATEVER THE INPUT: true; the input reads as it did. -/
def fnExactDoubledSpec : ChangeSpec := { name := "fnExactDoubled", fn := fun _ => fun
  | [d1, d2] => { results := [.lit (.bool true)], args := [d1, d2] }
  | _ => none }
def fnExactDoubledRow : OpenClaim := { program := "ytdcdcccdihhhcaa", sum := "94eafdac38589aec0c09d72fecf3cc7276ff37947ddc55fa320d180a4f937b29", func := "loop.example/g00851/laws.FnExactDoubled", spec := "fnExactDoubled", apart := false }
def FnExactDoubledSaid : Prop := fnExactDoubledRow.holds Try.pinned (OpenSpec.ofChange fnExactDoubledSpec)

/-- ITS FALSE NEIGHBOUR: 'it returns false'. Refute it at one input. -/
def fnExactDoubledWrong : ChangeSpec := { name := "fnExactDoubled", fn := fun _ => fun
  | [d1, d2] => { results := [.lit (.bool false)], args := [d1, d2] }
  | _ => none }
def FnExactDoubledWrongFalsely : Prop := fnExactDoubledRow.holds Try.pinned (OpenSpec.ofChange fnExactDoubledWrong)

/-- 'laws.FnExactCutOff': WHATEVER THE INPUT: true; the input reads as it did. -/
def fnExactCutOffSpec : ChangeSpec := { name := "fnExactCutOff", fn := fun _ => fun
  | [d1, d2, d3] => { results := [.lit (.bool true)], args := [d1, d2, d3] }
  | _ => none }
def fnExactCutOffRow : OpenClaim := { program := "ytdcdcccdihhhcaa", sum := "94eafdac38589aec0c09d72fecf3cc7276ff37947ddc55fa320d180a4f937b29", func := "loop.example/g00851/laws.FnExactCutOff", spec := "fnExactCutOff", apart := false }
def FnExactCutOffSaid : Prop := fnExactCutOffRow.holds Try.pinned (OpenSpec.ofChange fnExactCutOffSpec)

/-- ITS FALSE NEIGHBOUR: 'it returns false'. Refute it at one input. -/
def fnExactCutOffWrong : ChangeSpec := { name := "fnExactCutOff", fn := fun _ => fun
  | [d1, d2, d3] => { results := [.lit (.bool false)], args := [d1, d2, d3] }
  | _ => none }
def FnExactCutOffWrongFalsely : Prop := fnExactCutOffRow.holds Try.pinned (OpenSpec.ofChange fnExactCutOffWrong)

/-- 'laws.FnExactHealed': WHATEVER THE INPUT: true; the input reads as it did. -/
def fnExactHealedSpec : ChangeSpec := { name := "fnExactHealed", fn := fun _ => fun
  | [d1, d2, d3] => { results := [.lit (.bool true)], args := [d1, d2, d3] }
  | _ => none }
def fnExactHealedRow : OpenClaim := { program := "ytdcdcccdihhhcaa", sum := "94eafdac38589aec0c09d72fecf3cc7276ff37947ddc55fa320d180a4f937b29", func := "loop.example/g00851/laws.FnExactHealed", spec := "fnExactHealed", apart := false }
def FnExactHealedSaid : Prop := fnExactHealedRow.holds Try.pinned (OpenSpec.ofChange fnExactHealedSpec)

/-- ITS FALSE NEIGHBOUR: 'it returns false'. Refute it at one input. -/
def fnExactHealedWrong : ChangeSpec := { name := "fnExactHealed", fn := fun _ => fun
  | [d1, d2, d3] => { results := [.lit (.bool false)], args := [d1, d2, d3] }
  | _ => none }
def FnExactHealedWrongFalsely : Prop := fnExactHealedRow.holds Try.pinned (OpenSpec.ofChange fnExactHealedWrong)

/-- 'laws.FnExactLettersTo': WHATEVER THE INPUT: true; the input reads as it did. -/
def fnExactLettersToSpec : ChangeSpec := { name := "fnExactLettersTo", fn := fun _ => fun
  | [d1, d2] => { results := [.lit (.bool true)], args := [d1, d2] }
  | _ => none }
def fnExactLettersToRow : OpenClaim := { program := "ytdcdcccdihhhcaa", sum := "94eafdac38589aec0c09d72fecf3cc7276ff37947ddc55fa320d180a4f937b29", func := "loop.example/g00851/laws.FnExactLettersTo", spec := "fnExactLettersTo", apart := false }
def FnExactLettersToSaid : Prop := fnExactLettersToRow.holds Try.pinned (OpenSpec.ofChange fnExactLettersToSpec)

/-- ITS FALSE NEIGHBOUR: 'it returns false'. Refute it at one input. -/
def fnExactLettersToWrong : ChangeSpec := { name := "fnExactLettersTo", fn := fun _ => fun
  | [d1, d2] => { results := [.lit (.bool false)], args := [d1, d2] }
  | _ => none }
def FnExactLettersToWrongFalsely : Prop := fnExactLettersToRow.holds Try.pinned (OpenSpec.ofChange fnExactLettersToWrong)

/-- 'laws.FnExactSameNet': WHATEVER THE INPUT: true; the input reads as it did. -/
def fnExactSameNetSpec : ChangeSpec := { name := "fnExactSameNet", fn := fun _ => fun
  | [d1, d2] => { results := [.lit (.bool true)], args := [d1, d2] }
  | _ => none }
def fnExactSameNetRow : OpenClaim := { program := "ytdcdcccdihhhcaa", sum := "94eafdac38589aec0c09d72fecf3cc7276ff37947ddc55fa320d180a4f937b29", func := "loop.example/g00851/laws.FnExactSameNet", spec := "fnExactSameNet", apart := false }
def FnExactSameNetSaid : Prop := fnExactSameNetRow.holds Try.pinned (OpenSpec.ofChange fnExactSameNetSpec)

/-- ITS FALSE NEIGHBOUR: 'it returns false'. Refute it at one input. -/
def fnExactSameNetWrong : ChangeSpec := { name := "fnExactSameNet", fn := fun _ => fun
  | [d1, d2] => { results := [.lit (.bool false)], args := [d1, d2] }
  | _ => none }
def FnExactSameNetWrongFalsely : Prop := fnExactSameNetRow.holds Try.pinned (OpenSpec.ofChange fnExactSameNetWrong)

/- THE SECOND FORM. 'bulk': how many values and letters a reading holds, each counted each time it is reached (what is shared counts as often as it is met; a slice's spare places count too). A statement '..UptoSaid' is the law's where the arguments, and the package variables that the reading takes, are together of bulk at most 1048576: NARROWER than '..Said'. Prove '..Said' where nothing that the law and all that it calls make is longer than what came in: it says more and counts as full. Else prove '..UptoSaid'. A law counts once. -/
mutual
def uptoBulk {H : Type} : DataW H → Nat
  | .lit (.string bytes) => bytes.length + 1
  | .lit _ => 1
  | .nil => 1
  | .ptr d => uptoBulk d + 1
  | .slice elems spare => uptoBulkAll elems + uptoBulkAll spare + 1
  | .agg parts => uptoBulkAll parts + 1
  | .iface _ d => uptoBulk d + 1
  | .map entries => uptoBulkEntries entries + 1
  | .held _ => 1
def uptoBulkAll {H : Type} : List (DataW H) → Nat
  | [] => 0
  | d :: r => uptoBulk d + uptoBulkAll r
def uptoBulkEntries {H : Type} : List (Lit × DataW H) → Nat
  | [] => 0
  | x :: r => uptoBulkEntry x + uptoBulkEntries r
def uptoBulkEntry {H : Type} : Lit × DataW H → Nat
  | (.string bytes, d) => bytes.length + uptoBulk d + 1
  | (_, d) => uptoBulk d + 1
 end
def uptoSmall : (H : Type) → List (DataW H) → Bool := fun _ ds => decide (uptoBulkAll ds ≤ 1048576)
def OpenSpec.upto (s : _root_.Go.ChangeSpec) : _root_.Go.OpenSpec := { _root_.Go.OpenSpec.ofChange s with cond := some uptoSmall }

/-- 'laws.FnLinks', WHERE WHAT IT READS IS OF BULK AT MOST 1048576: true; the input reads as it did. -/
def fnLinksUptoRow : OpenClaim := { program := "ytdcdcccdihhhcaa", sum := "94eafdac38589aec0c09d72fecf3cc7276ff37947ddc55fa320d180a4f937b29", func := "loop.example/g00851/laws.FnLinks", spec := "fnLinks", apart := false, narrowed := true }
def FnLinksUptoSaid : Prop := fnLinksUptoRow.holds Try.pinned (OpenSpec.upto fnLinksSpec)

/-- 'laws.FnFlight', WHERE WHAT IT READS IS OF BULK AT MOST 1048576: true; the input reads as it did. -/
def fnFlightUptoRow : OpenClaim := { program := "ytdcdcccdihhhcaa", sum := "94eafdac38589aec0c09d72fecf3cc7276ff37947ddc55fa320d180a4f937b29", func := "loop.example/g00851/laws.FnFlight", spec := "fnFlight", apart := false, narrowed := true }
def FnFlightUptoSaid : Prop := fnFlightUptoRow.holds Try.pinned (OpenSpec.upto fnFlightSpec)

/-- 'laws.FnForWhom', WHERE WHAT IT READS IS OF BULK AT MOST 1048576: true; the input reads as it did. -/
def fnForWhomUptoRow : OpenClaim := { program := "ytdcdcccdihhhcaa", sum := "94eafdac38589aec0c09d72fecf3cc7276ff37947ddc55fa320d180a4f937b29", func := "loop.example/g00851/laws.FnForWhom", spec := "fnForWhom", apart := false, narrowed := true }
def FnForWhomUptoSaid : Prop := fnForWhomUptoRow.holds Try.pinned (OpenSpec.upto fnForWhomSpec)

/-- 'laws.FnFullNet', WHERE WHAT IT READS IS OF BULK AT MOST 1048576: true; the input reads as it did. -/
def fnFullNetUptoRow : OpenClaim := { program := "ytdcdcccdihhhcaa", sum := "94eafdac38589aec0c09d72fecf3cc7276ff37947ddc55fa320d180a4f937b29", func := "loop.example/g00851/laws.FnFullNet", spec := "fnFullNet", apart := false, narrowed := true }
def FnFullNetUptoSaid : Prop := fnFullNetUptoRow.holds Try.pinned (OpenSpec.upto fnFullNetSpec)

/-- 'laws.FnExactMsgOk', WHERE WHAT IT READS IS OF BULK AT MOST 1048576: true; the input reads as it did. -/
def fnExactMsgOkUptoRow : OpenClaim := { program := "ytdcdcccdihhhcaa", sum := "94eafdac38589aec0c09d72fecf3cc7276ff37947ddc55fa320d180a4f937b29", func := "loop.example/g00851/laws.FnExactMsgOk", spec := "fnExactMsgOk", apart := false, narrowed := true }
def FnExactMsgOkUptoSaid : Prop := fnExactMsgOkUptoRow.holds Try.pinned (OpenSpec.upto fnExactMsgOkSpec)

/-- 'laws.FnExactNetOk', WHERE WHAT IT READS IS OF BULK AT MOST 1048576: true; the input reads as it did. -/
def fnExactNetOkUptoRow : OpenClaim := { program := "ytdcdcccdihhhcaa", sum := "94eafdac38589aec0c09d72fecf3cc7276ff37947ddc55fa320d180a4f937b29", func := "loop.example/g00851/laws.FnExactNetOk", spec := "fnExactNetOk", apart := false, narrowed := true }
def FnExactNetOkUptoSaid : Prop := fnExactNetOkUptoRow.holds Try.pinned (OpenSpec.upto fnExactNetOkSpec)

/-- 'laws.FnExactPassesIn', WHERE WHAT IT READS IS OF BULK AT MOST 1048576: true; the input reads as it did. -/
def fnExactPassesInUptoRow : OpenClaim := { program := "ytdcdcccdihhhcaa", sum := "94eafdac38589aec0c09d72fecf3cc7276ff37947ddc55fa320d180a4f937b29", func := "loop.example/g00851/laws.FnExactPassesIn", spec := "fnExactPassesIn", apart := false, narrowed := true }
def FnExactPassesInUptoSaid : Prop := fnExactPassesInUptoRow.holds Try.pinned (OpenSpec.upto fnExactPassesInSpec)

/-- 'laws.FnExactSent', WHERE WHAT IT READS IS OF BULK AT MOST 1048576: true; the input reads as it did. -/
def fnExactSentUptoRow : OpenClaim := { program := "ytdcdcccdihhhcaa", sum := "94eafdac38589aec0c09d72fecf3cc7276ff37947ddc55fa320d180a4f937b29", func := "loop.example/g00851/laws.FnExactSent", spec := "fnExactSent", apart := false, narrowed := true }
def FnExactSentUptoSaid : Prop := fnExactSentUptoRow.holds Try.pinned (OpenSpec.upto fnExactSentSpec)

/-- 'laws.FnExactHanded', WHERE WHAT IT READS IS OF BULK AT MOST 1048576: true; the input reads as it did. -/
def fnExactHandedUptoRow : OpenClaim := { program := "ytdcdcccdihhhcaa", sum := "94eafdac38589aec0c09d72fecf3cc7276ff37947ddc55fa320d180a4f937b29", func := "loop.example/g00851/laws.FnExactHanded", spec := "fnExactHanded", apart := false, narrowed := true }
def FnExactHandedUptoSaid : Prop := fnExactHandedUptoRow.holds Try.pinned (OpenSpec.upto fnExactHandedSpec)

/-- 'laws.FnExactLost', WHERE WHAT IT READS IS OF BULK AT MOST 1048576: true; the input reads as it did. -/
def fnExactLostUptoRow : OpenClaim := { program := "ytdcdcccdihhhcaa", sum := "94eafdac38589aec0c09d72fecf3cc7276ff37947ddc55fa320d180a4f937b29", func := "loop.example/g00851/laws.FnExactLost", spec := "fnExactLost", apart := false, narrowed := true }
def FnExactLostUptoSaid : Prop := fnExactLostUptoRow.holds Try.pinned (OpenSpec.upto fnExactLostSpec)

/-- 'laws.FnExactDoubled', WHERE WHAT IT READS IS OF BULK AT MOST 1048576: true; the input reads as it did. -/
def fnExactDoubledUptoRow : OpenClaim := { program := "ytdcdcccdihhhcaa", sum := "94eafdac38589aec0c09d72fecf3cc7276ff37947ddc55fa320d180a4f937b29", func := "loop.example/g00851/laws.FnExactDoubled", spec := "fnExactDoubled", apart := false, narrowed := true }
def FnExactDoubledUptoSaid : Prop := fnExactDoubledUptoRow.holds Try.pinned (OpenSpec.upto fnExactDoubledSpec)

/-- 'laws.FnExactCutOff', WHERE WHAT IT READS IS OF BULK AT MOST 1048576: true; the input reads as it did. -/
def fnExactCutOffUptoRow : OpenClaim := { program := "ytdcdcccdihhhcaa", sum := "94eafdac38589aec0c09d72fecf3cc7276ff37947ddc55fa320d180a4f937b29", func := "loop.example/g00851/laws.FnExactCutOff", spec := "fnExactCutOff", apart := false, narrowed := true }
def FnExactCutOffUptoSaid : Prop := fnExactCutOffUptoRow.holds Try.pinned (OpenSpec.upto fnExactCutOffSpec)

/-- 'laws.FnExactHealed', WHERE WHAT IT READS IS OF BULK AT MOST 1048576: true; the input reads as it did. -/
def fnExactHealedUptoRow : OpenClaim := { program := "ytdcdcccdihhhcaa", sum := "94eafdac38589aec0c09d72fecf3cc7276ff37947ddc55fa320d180a4f937b29", func := "loop.example/g00851/laws.FnExactHealed", spec := "fnExactHealed", apart := false, narrowed := true }
def FnExactHealedUptoSaid : Prop := fnExactHealedUptoRow.holds Try.pinned (OpenSpec.upto fnExactHealedSpec)

/-- 'laws.FnExactLettersTo', WHERE WHAT IT READS IS OF BULK AT MOST 1048576: true; the input reads as it did. -/
def fnExactLettersToUptoRow : OpenClaim := { program := "ytdcdcccdihhhcaa", sum := "94eafdac38589aec0c09d72fecf3cc7276ff37947ddc55fa320d180a4f937b29", func := "loop.example/g00851/laws.FnExactLettersTo", spec := "fnExactLettersTo", apart := false, narrowed := true }
def FnExactLettersToUptoSaid : Prop := fnExactLettersToUptoRow.holds Try.pinned (OpenSpec.upto fnExactLettersToSpec)

/-- 'laws.FnExactSameNet', WHERE WHAT IT READS IS OF BULK AT MOST 1048576: true; the input reads as it did. -/
def fnExactSameNetUptoRow : OpenClaim := { program := "ytdcdcccdihhhcaa", sum := "94eafdac38589aec0c09d72fecf3cc7276ff37947ddc55fa320d180a4f937b29", func := "loop.example/g00851/laws.FnExactSameNet", spec := "fnExactSameNet", apart := false, narrowed := true }
def FnExactSameNetUptoSaid : Prop := fnExactSameNetUptoRow.holds Try.pinned (OpenSpec.upto fnExactSameNetSpec)

end Rows
end Go.Proofs.Ytdcdcccdihhhcaa

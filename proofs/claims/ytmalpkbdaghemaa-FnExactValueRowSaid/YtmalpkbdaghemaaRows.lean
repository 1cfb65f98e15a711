/-
  No cell of these rows narrows 'for every input' (looked for: loops, veiled, ifaces, maps, wideKeys, modest, calm, conditions, laid).
  DERIVED. THE GIVEN ROWS OF THIS SEAT. 6 by the template 'for every input the law returns true; each argument reads behind the call as it read before'; 0 by the template 'total and deterministic' (their statements: YtmalpkbdaghemaaTotals.lean).
  GIVEN WITH THE SEED: the statements are not yours to turn. If you find one false, say at which input.
  Laid BY PROGRAM, IN A SANDBOX (cutbox-rows.mjs): the forced cells as the released guide's own fill.sh prints them over the translation 5fdd454cf175bb2b… (all of the seat's roots in one cut). By AI agents, Wed Nov 11 2026. No macro, syntax, notation, axiom, sorry.
-/
import Derived.Test.YtmalpkbdaghemaaChecked
import GoSem.Claim
import GoSem.ClaimJoined
import GoSem.ClaimMapViews
import Derived.JoinedTies
import Derived.KernelRfl
namespace Go.Proofs.Ytmalpkbdaghemaa
/- THE CELL 'sum', in the pinned program and in every row, IS THE sha256 OF THE DUMP (.gsa) THAT YtmalpkbdaghemaaProg.lean LOADS. Nothing in Lean hashes anything: it is a label: what it is worth is what the hold of that sum in a sandbox is worth. -/
noncomputable def Try.pinned : Pinned := { name := "ytmalpkbdaghemaa", sum := "5fdd454cf175bb2b67b7d9f64fca90532ebc578728ab1860c4d3c1f7ace1c924", checked := Try.checked }
namespace Rows
def none {H : Type} : Left H := { results := [], args := [] }

/-- 'laws.FnExactAskRow': WHATEVER THE INPUT: true; the input reads as it did. -/
def fnExactAskRowSpec : ChangeSpec := { name := "fnExactAskRow", fn := fun _ => fun
  | [d] => { results := [.lit (.bool true)], args := [d] }
  | _ => none }
def fnExactAskRowRow : OpenClaim := { program := "ytmalpkbdaghemaa", sum := "5fdd454cf175bb2b67b7d9f64fca90532ebc578728ab1860c4d3c1f7ace1c924", func := "loop.example/g00851/laws.FnExactAskRow", spec := "fnExactAskRow", unfollowed := true, recurses := true, apart := false }
def FnExactAskRowSaid : Prop := fnExactAskRowRow.holds Try.pinned (OpenSpec.ofChange fnExactAskRowSpec)

/-- ITS FALSE NEIGHBOUR: 'it returns false'. Refute it at one input. -/
def fnExactAskRowWrong : ChangeSpec := { name := "fnExactAskRow", fn := fun _ => fun
  | [d] => { results := [.lit (.bool false)], args := [d] }
  | _ => none }
def FnExactAskRowWrongFalsely : Prop := fnExactAskRowRow.holds Try.pinned (OpenSpec.ofChange fnExactAskRowWrong)

/-- 'laws.FnExactAckRow': WHATEVER THE INPUT: true; the input reads as it did. -/
def fnExactAckRowSpec : ChangeSpec := { name := "fnExactAckRow", fn := fun _ => fun
  | [d] => { results := [.lit (.bool true)], args := [d] }
  | _ => none }
def fnExactAckRowRow : OpenClaim := { program := "ytmalpkbdaghemaa", sum := "5fdd454cf175bb2b67b7d9f64fca90532ebc578728ab1860c4d3c1f7ace1c924", func := "loop.example/g00851/laws.FnExactAckRow", spec := "fnExactAckRow", unfollowed := true, recurses := true, apart := false }
def FnExactAckRowSaid : Prop := fnExactAckRowRow.holds Try.pinned (OpenSpec.ofChange fnExactAckRowSpec)

/-- ITS FALSE NEIGHBOUR: 'it returns false'. Refute it at one input. -/
def fnExactAckRowWrong : ChangeSpec := { name := "fnExactAckRow", fn := fun _ => fun
  | [d] => { results := [.lit (.bool false)], args := [d] }
  | _ => none }
def FnExactAckRowWrongFalsely : Prop := fnExactAckRowRow.holds Try.pinned (OpenSpec.ofChange fnExactAckRowWrong)

/-- 'laws.FnExactFetchRow': WHATEVER THE INPUT: true; the input reads as it did. -/
def fnExactFetchRowSpec : ChangeSpec := { name := "fnExactFetchRow", fn := fun _ => fun
  | [d] => { results := [.lit (.bool true)], args := [d] }
  | _ => none }
def fnExactFetchRowRow : OpenClaim := { program := "ytmalpkbdaghemaa", sum := "5fdd454cf175bb2b67b7d9f64fca90532ebc578728ab1860c4d3c1f7ace1c924", func := "loop.example/g00851/laws.FnExactFetchRow", spec := "fnExactFetchRow", unfollowed := true, recurses := true, apart := false }
def FnExactFetchRowSaid : Prop := fnExactFetchRowRow.holds Try.pinned (OpenSpec.ofChange fnExactFetchRowSpec)

/-- ITS FALSE NEIGHBOUR: 'it returns false'. Refute it at one input. -/
def fnExactFetchRowWrong : ChangeSpec := { name := "fnExactFetchRow", fn := fun _ => fun
  | [d] => { results := [.lit (.bool false)], args := [d] }
  | _ => none }
def FnExactFetchRowWrongFalsely : Prop := fnExactFetchRowRow.holds Try.pinned (OpenSpec.ofChange fnExactFetchRowWrong)

/-- 'laws.FnExactTrimRow': WHATEVER THE INPUT: true; the input reads as it did. -/
def fnExactTrimRowSpec : ChangeSpec := { name := "fnExactTrimRow", fn := fun _ => fun
  | [d] => { results := [.lit (.bool true)], args := [d] }
  | _ => none }
def fnExactTrimRowRow : OpenClaim := { program := "ytmalpkbdaghemaa", sum := "5fdd454cf175bb2b67b7d9f64fca90532ebc578728ab1860c4d3c1f7ace1c924", func := "loop.example/g00851/laws.FnExactTrimRow", spec := "fnExactTrimRow", unfollowed := true, recurses := true, apart := false }
def FnExactTrimRowSaid : Prop := fnExactTrimRowRow.holds Try.pinned (OpenSpec.ofChange fnExactTrimRowSpec)

/-- ITS FALSE NEIGHBOUR: 'it returns false'. Refute it at one input. -/
def fnExactTrimRowWrong : ChangeSpec := { name := "fnExactTrimRow", fn := fun _ => fun
  | [d] => { results := [.lit (.bool false)], args := [d] }
  | _ => none }
def FnExactTrimRowWrongFalsely : Prop := fnExactTrimRowRow.holds Try.pinned (OpenSpec.ofChange fnExactTrimRowWrong)

/-- 'laws.FnExactReadRow': WHATEVER THE INPUT: true; the input reads as it did. -/
def fnExactReadRowSpec : ChangeSpec := { name := "fnExactReadRow", fn := fun _ => fun
  | [d] => { results := [.lit (.bool true)], args := [d] }
  | _ => none }
def fnExactReadRowRow : OpenClaim := { program := "ytmalpkbdaghemaa", sum := "5fdd454cf175bb2b67b7d9f64fca90532ebc578728ab1860c4d3c1f7ace1c924", func := "loop.example/g00851/laws.FnExactReadRow", spec := "fnExactReadRow", unfollowed := true, recurses := true, apart := false }
def FnExactReadRowSaid : Prop := fnExactReadRowRow.holds Try.pinned (OpenSpec.ofChange fnExactReadRowSpec)

/-- ITS FALSE NEIGHBOUR: 'it returns false'. Refute it at one input. -/
def fnExactReadRowWrong : ChangeSpec := { name := "fnExactReadRow", fn := fun _ => fun
  | [d] => { results := [.lit (.bool false)], args := [d] }
  | _ => none }
def FnExactReadRowWrongFalsely : Prop := fnExactReadRowRow.holds Try.pinned (OpenSpec.ofChange fnExactReadRowWrong)

/-- 'laws.FnExactValueRow': WHATEVER THE INPUT: true; the input reads as it did. -/
def fnExactValueRowSpec : ChangeSpec := { name := "fnExactValueRow", fn := fun _ => fun
  | [d] => { results := [.lit (.bool true)], args := [d] }
  | _ => none }
def fnExactValueRowRow : OpenClaim := { program := "ytmalpkbdaghemaa", sum := "5fdd454cf175bb2b67b7d9f64fca90532ebc578728ab1860c4d3c1f7ace1c924", func := "loop.example/g00851/laws.FnExactValueRow", spec := "fnExactValueRow", unfollowed := true, recurses := true, apart := false }
def FnExactValueRowSaid : Prop := fnExactValueRowRow.holds Try.pinned (OpenSpec.ofChange fnExactValueRowSpec)

/-- ITS FALSE NEIGHBOUR: 'it returns false'. Refute it at one input. -/
def fnExactValueRowWrong : ChangeSpec := { name := "fnExactValueRow", fn := fun _ => fun
  | [d] => { results := [.lit (.bool false)], args := [d] }
  | _ => none }
def FnExactValueRowWrongFalsely : Prop := fnExactValueRowRow.holds Try.pinned (OpenSpec.ofChange fnExactValueRowWrong)

/- THE SECOND FORM. 'bulk': how many values and letters a reading holds, each counted each time it is reached (what is shared counts as often as it is met; a slice's spare places count too). A statement '..UptoSaid' is the law's where the arguments, and the package variables that the reading takes, are together of bulk at most 1048576: NARROWER than '..Said'. Prove '..Said' where nothing that the law and all that it calls make is longer than what came in: it says more and counts as full. Else prove '..UptoSaid'. A law counts once. -/
mutual
def uptoBulk {H : Type} : DataW H → Nat
  | .lit (.string bytes) => bytes.length + 1
  | .lit _ => 1
  | .nil => 1
  | .ptr d => uptoBulk d + 1
  | .slice elems spare => uptoBulkAll elems + uptoBulkAll spare + 1
  | .agg parts => uptoBulkAll parts + 1
  | .iface _ d => uptoBulk d + 1
  | .map entries => uptoBulkEntries entries + 1
  | .held _ => 1
def uptoBulkAll {H : Type} : List (DataW H) → Nat
  | [] => 0
  | d :: r => uptoBulk d + uptoBulkAll r
def uptoBulkEntries {H : Type} : List (Lit × DataW H) → Nat
  | [] => 0
  | x :: r => uptoBulkEntry x + uptoBulkEntries r
def uptoBulkEntry {H : Type} : Lit × DataW H → Nat
  | (.string bytes, d) => bytes.length + uptoBulk d + 1
  | (_, d) => uptoBulk d + 1
 end
def uptoSmall : (H : Type) → List (DataW H) → Bool := fun _ ds => decide (uptoBulkAll ds ≤ 1048576)
def OpenSpec.upto (s : _root_.Go.ChangeSpec) : _root_.Go.OpenSpec := { _root_.Go.OpenSpec.ofChange s with cond := some uptoSmall }

/-- 'laws.FnExactAskRow', WHERE WHAT IT READS IS OF BULK AT MOST 1048576: true; the input reads as it did. -/
def fnExactAskRowUptoRow : OpenClaim := { program := "ytmalpkbdaghemaa", sum := "5fdd454cf175bb2b67b7d9f64fca90532ebc578728ab1860c4d3c1f7ace1c924", func := "loop.example/g00851/laws.FnExactAskRow", spec := "fnExactAskRow", unfollowed := true, recurses := true, apart := false, narrowed := true }
def FnExactAskRowUptoSaid : Prop := fnExactAskRowUptoRow.holds Try.pinned (OpenSpec.upto fnExactAskRowSpec)

/-- 'laws.FnExactAckRow', WHERE WHAT IT READS IS OF BULK AT MOST 1048576: true; the input reads as it did. -/
def fnExactAckRowUptoRow : OpenClaim := { program := "ytmalpkbdaghemaa", sum := "5fdd454cf175bb2b67b7d9f64fca90532ebc578728ab1860c4d3c1f7ace1c924", func := "loop.example/g00851/laws.FnExactAckRow", spec := "fnExactAckRow", unfollowed := true, recurses := true, apart := false, narrowed := true }
def FnExactAckRowUptoSaid : Prop := fnExactAckRowUptoRow.holds Try.pinned (OpenSpec.upto fnExactAckRowSpec)

/-- 'laws.FnExactFetchRow', WHERE WHAT IT READS IS OF BULK AT MOST 1048576: true; the input reads as it did. -/
def fnExactFetchRowUptoRow : OpenClaim := { program := "ytmalpkbdaghemaa", sum := "5fdd454cf175bb2b67b7d9f64fca90532ebc578728ab1860c4d3c1f7ace1c924", func := "loop.example/g00851/laws.FnExactFetchRow", spec := "fnExactFetchRow", unfollowed := true, recurses := true, apart := false, narrowed := true }
def FnExactFetchRowUptoSaid : Prop := fnExactFetchRowUptoRow.holds Try.pinned (OpenSpec.upto fnExactFetchRowSpec)

/-- 'laws.FnExactTrimRow', WHERE WHAT IT READS IS OF BULK AT MOST 1048576: true; the input reads as it did. -/
def fnExactTrimRowUptoRow : OpenClaim := { program := "ytmalpkbdaghemaa", sum := "5fdd454cf175bb2b67b7d9f64fca90532ebc578728ab1860c4d3c1f7ace1c924", func := "loop.example/g00851/laws.FnExactTrimRow", spec := "fnExactTrimRow", unfollowed := true, recurses := true, apart := false, narrowed := true }
def FnExactTrimRowUptoSaid : Prop := fnExactTrimRowUptoRow.holds Try.pinned (OpenSpec.upto fnExactTrimRowSpec)

/-- 'laws.FnExactReadRow', WHERE WHAT IT READS IS OF BULK AT MOST 1048576: true; the input reads as it did. -/
def fnExactReadRowUptoRow : OpenClaim := { program := "ytmalpkbdaghemaa", sum := "5fdd454cf175bb2b67b7d9f64fca90532ebc578728ab1860c4d3c1f7ace1c924", func := "loop.example/g00851/laws.FnExactReadRow", spec := "fnExactReadRow", unfollowed := true, recurses := true, apart := false, narrowed := true }
def FnExactReadRowUptoSaid : Prop := fnExactReadRowUptoRow.holds Try.pinned (OpenSpec.upto fnExactReadRowSpec)

/-- 'laws.FnExactValueRow', WHERE WHAT IT READS IS OF BULK AT MOST 1048576: true; the input reads as it did. -/
def fnExactValueRowUptoRow : OpenClaim := { program := "ytmalpkbdaghemaa", sum := "5fdd454cf175bb2b67b7d9f64fca90532ebc578728ab1860c4d3c1f7ace1c924", func := "loop.example/g00851/laws.FnExactValueRow", spec := "fnExactValueRow", unfollowed := true, recurses := true, apart := false, narrowed := true }
def FnExactValueRowUptoSaid : Prop := fnExactValueRowUptoRow.holds Try.pinned (OpenSpec.upto fnExactValueRowSpec)

end Rows
end Go.Proofs.Ytmalpkbdaghemaa

/-
  No cell of these rows narrows 'for every input' (looked for: loops, veiled, ifaces, maps, wideKeys, modest, calm, conditions, laid).
  DERIVED. THE GIVEN ROWS OF THIS SEAT. 14 by the template 'for every input the law returns true; each argument reads behind the call as it read before'; 0 by the template 'total and deterministic' (their statements: YthcagdcbifdfeaaTotals.lean).
  GIVEN WITH THE SEED: the statements are not yours to turn. If you find one false, say at which input.
  Laid BY PROGRAM, IN A SANDBOX (cutbox-rows.mjs): the forced cells as the released guide's own fill.sh prints them over the translation 9fc04cbb4796c29b… (all of the seat's roots in one cut). By AI agents, Wed Nov 11 2026. No macro, syntax, notation, axiom, sorry.
-/
import Derived.Test.YthcagdcbifdfeaaChecked
import GoSem.Claim
import GoSem.ClaimJoined
import GoSem.ClaimMapViews
import Derived.JoinedTies
import Derived.KernelRfl
namespace Go.Proofs.Ythcagdcbifdfeaa
/- THE CELL 'sum', in the pinned program and in every row, IS THE sha256 OF THE DUMP (.gsa) THAT YthcagdcbifdfeaaProg.lean LOADS. Nothing in Lean hashes anything: it is a label: what it is worth is what the hold of that sum in a sandbox is worth. -/
noncomputable def Try.pinned : Pinned := { name := "ythcagdcbifdfeaa", sum := "9fc04cbb4796c29b22d85a7c09fca9c5ad8f7af23055e62c0bf4e5ea832f549b", checked := Try.checked }
namespace Rows
def none {H : Type} : Left H := { results := [], args := [] }

/-- 'laws.FnFlight': WHATEVER THE INPUT: true; the input reads as it did. -/
def fnFlightSpec : ChangeSpec := { name := "fnFlight", fn := fun _ => fun
  | [d] => { results := [.lit (.bool true)], args := [d] }
  | _ => none }
def fnFlightRow : OpenClaim := { program := "ythcagdcbifdfeaa", sum := "9fc04cbb4796c29b22d85a7c09fca9c5ad8f7af23055e62c0bf4e5ea832f549b", func := "loop.example/g00851/laws.FnFlight", spec := "fnFlight", apart := false }
def FnFlightSaid : Prop := fnFlightRow.holds Try.pinned (OpenSpec.ofChange fnFlightSpec)

/-- ITS FALSE NEIGHBOUR: 'it returns false'. Refute it at one input. -/
def fnFlightWrong : ChangeSpec := { name := "fnFlight", fn := fun _ => fun
  | [d] => { results := [.lit (.bool false)], args := [d] }
  | _ => none }
def FnFlightWrongFalsely : Prop := fnFlightRow.holds Try.pinned (OpenSpec.ofChange fnFlightWrong)

/-- 'laws.FnClocks': WHATEVER THE INPUT: true; the input reads as it did. -/
def fnClocksSpec : ChangeSpec := { name := "fnClocks", fn := fun _ => fun
  | [d] => { results := [.lit (.bool true)], args := [d] }
  | _ => none }
def fnClocksRow : OpenClaim := { program := "ythcagdcbifdfeaa", sum := "9fc04cbb4796c29b22d85a7c09fca9c5ad8f7af23055e62c0bf4e5ea832f549b", func := "loop.example/g00851/laws.FnClocks", spec := "fnClocks", apart := false }
def FnClocksSaid : Prop := fnClocksRow.holds Try.pinned (OpenSpec.ofChange fnClocksSpec)

/-- ITS FALSE NEIGHBOUR: 'it returns false'. Refute it at one input. -/
def fnClocksWrong : ChangeSpec := { name := "fnClocks", fn := fun _ => fun
  | [d] => { results := [.lit (.bool false)], args := [d] }
  | _ => none }
def FnClocksWrongFalsely : Prop := fnClocksRow.holds Try.pinned (OpenSpec.ofChange fnClocksWrong)

/-- 'laws.FnTimers': WHATEVER THE INPUT: true; the input reads as it did. -/
def fnTimersSpec : ChangeSpec := { name := "fnTimers", fn := fun _ => fun
  | [d] => { results := [.lit (.bool true)], args := [d] }
  | _ => none }
def fnTimersRow : OpenClaim := { program := "ythcagdcbifdfeaa", sum := "9fc04cbb4796c29b22d85a7c09fca9c5ad8f7af23055e62c0bf4e5ea832f549b", func := "loop.example/g00851/laws.FnTimers", spec := "fnTimers", inPlace := ["slices.overlaps[loop.example/g00851/impl.Timer]"], unfollowed := true, recurses := true, apart := false }
def FnTimersSaid : Prop := fnTimersRow.holds Try.pinned (OpenSpec.ofChange fnTimersSpec)

/-- ITS FALSE NEIGHBOUR: 'it returns false'. Refute it at one input. -/
def fnTimersWrong : ChangeSpec := { name := "fnTimers", fn := fun _ => fun
  | [d] => { results := [.lit (.bool false)], args := [d] }
  | _ => none }
def FnTimersWrongFalsely : Prop := fnTimersRow.holds Try.pinned (OpenSpec.ofChange fnTimersWrong)

/-- 'laws.FnExactTimeOk': WHATEVER THE INPUT: true; the input reads as it did. -/
def fnExactTimeOkSpec : ChangeSpec := { name := "fnExactTimeOk", fn := fun _ => fun
  | [d] => { results := [.lit (.bool true)], args := [d] }
  | _ => none }
def fnExactTimeOkRow : OpenClaim := { program := "ythcagdcbifdfeaa", sum := "9fc04cbb4796c29b22d85a7c09fca9c5ad8f7af23055e62c0bf4e5ea832f549b", func := "loop.example/g00851/laws.FnExactTimeOk", spec := "fnExactTimeOk", apart := false }
def FnExactTimeOkSaid : Prop := fnExactTimeOkRow.holds Try.pinned (OpenSpec.ofChange fnExactTimeOkSpec)

/-- ITS FALSE NEIGHBOUR: 'it returns false'. Refute it at one input. -/
def fnExactTimeOkWrong : ChangeSpec := { name := "fnExactTimeOk", fn := fun _ => fun
  | [d] => { results := [.lit (.bool false)], args := [d] }
  | _ => none }
def FnExactTimeOkWrongFalsely : Prop := fnExactTimeOkRow.holds Try.pinned (OpenSpec.ofChange fnExactTimeOkWrong)

/-- 'laws.FnExactClocksOk': WHATEVER THE INPUT: true; the input reads as it did. -/
def fnExactClocksOkSpec : ChangeSpec := { name := "fnExactClocksOk", fn := fun _ => fun
  | [d] => { results := [.lit (.bool true)], args := [d] }
  | _ => none }
def fnExactClocksOkRow : OpenClaim := { program := "ythcagdcbifdfeaa", sum := "9fc04cbb4796c29b22d85a7c09fca9c5ad8f7af23055e62c0bf4e5ea832f549b", func := "loop.example/g00851/laws.FnExactClocksOk", spec := "fnExactClocksOk", apart := false }
def FnExactClocksOkSaid : Prop := fnExactClocksOkRow.holds Try.pinned (OpenSpec.ofChange fnExactClocksOkSpec)

/-- ITS FALSE NEIGHBOUR: 'it returns false'. Refute it at one input. -/
def fnExactClocksOkWrong : ChangeSpec := { name := "fnExactClocksOk", fn := fun _ => fun
  | [d] => { results := [.lit (.bool false)], args := [d] }
  | _ => none }
def FnExactClocksOkWrongFalsely : Prop := fnExactClocksOkRow.holds Try.pinned (OpenSpec.ofChange fnExactClocksOkWrong)

/-- 'laws.FnExactTicked': WHATEVER THE INPUT: true; the input reads as it did. -/
def fnExactTickedSpec : ChangeSpec := { name := "fnExactTicked", fn := fun _ => fun
  | [d1, d2, d3] => { results := [.lit (.bool true)], args := [d1, d2, d3] }
  | _ => none }
def fnExactTickedRow : OpenClaim := { program := "ythcagdcbifdfeaa", sum := "9fc04cbb4796c29b22d85a7c09fca9c5ad8f7af23055e62c0bf4e5ea832f549b", func := "loop.example/g00851/laws.FnExactTicked", spec := "fnExactTicked", apart := false }
def FnExactTickedSaid : Prop := fnExactTickedRow.holds Try.pinned (OpenSpec.ofChange fnExactTickedSpec)

/-- ITS FALSE NEIGHBOUR: 'it returns false'. Refute it at one input. -/
def fnExactTickedWrong : ChangeSpec := { name := "fnExactTicked", fn := fun _ => fun
  | [d1, d2, d3] => { results := [.lit (.bool false)], args := [d1, d2, d3] }
  | _ => none }
def FnExactTickedWrongFalsely : Prop := fnExactTickedRow.holds Try.pinned (OpenSpec.ofChange fnExactTickedWrong)

/-- 'laws.FnExactJumped': WHATEVER THE INPUT: true; the input reads as it did. -/
def fnExactJumpedSpec : ChangeSpec := { name := "fnExactJumped", fn := fun _ => fun
  | [d1, d2, d3] => { results := [.lit (.bool true)], args := [d1, d2, d3] }
  | _ => none }
def fnExactJumpedRow : OpenClaim := { program := "ythcagdcbifdfeaa", sum := "9fc04cbb4796c29b22d85a7c09fca9c5ad8f7af23055e62c0bf4e5ea832f549b", func := "loop.example/g00851/laws.FnExactJumped", spec := "fnExactJumped", apart := false }
def FnExactJumpedSaid : Prop := fnExactJumpedRow.holds Try.pinned (OpenSpec.ofChange fnExactJumpedSpec)

/-- ITS FALSE NEIGHBOUR: 'it returns false'. Refute it at one input. -/
def fnExactJumpedWrong : ChangeSpec := { name := "fnExactJumped", fn := fun _ => fun
  | [d1, d2, d3] => { results := [.lit (.bool false)], args := [d1, d2, d3] }
  | _ => none }
def FnExactJumpedWrongFalsely : Prop := fnExactJumpedRow.holds Try.pinned (OpenSpec.ofChange fnExactJumpedWrong)

/-- 'laws.FnExactLatest': WHATEVER THE INPUT: true; the input reads as it did. -/
def fnExactLatestSpec : ChangeSpec := { name := "fnExactLatest", fn := fun _ => fun
  | [d] => { results := [.lit (.bool true)], args := [d] }
  | _ => none }
def fnExactLatestRow : OpenClaim := { program := "ythcagdcbifdfeaa", sum := "9fc04cbb4796c29b22d85a7c09fca9c5ad8f7af23055e62c0bf4e5ea832f549b", func := "loop.example/g00851/laws.FnExactLatest", spec := "fnExactLatest", apart := false }
def FnExactLatestSaid : Prop := fnExactLatestRow.holds Try.pinned (OpenSpec.ofChange fnExactLatestSpec)

/-- ITS FALSE NEIGHBOUR: 'it returns false'. Refute it at one input. -/
def fnExactLatestWrong : ChangeSpec := { name := "fnExactLatest", fn := fun _ => fun
  | [d] => { results := [.lit (.bool false)], args := [d] }
  | _ => none }
def FnExactLatestWrongFalsely : Prop := fnExactLatestRow.holds Try.pinned (OpenSpec.ofChange fnExactLatestWrong)

/-- 'laws.FnExactApartIn': WHATEVER THE INPUT: true; the input reads as it did. -/
def fnExactApartInSpec : ChangeSpec := { name := "fnExactApartIn", fn := fun _ => fun
  | [d] => { results := [.lit (.bool true)], args := [d] }
  | _ => none }
def fnExactApartInRow : OpenClaim := { program := "ythcagdcbifdfeaa", sum := "9fc04cbb4796c29b22d85a7c09fca9c5ad8f7af23055e62c0bf4e5ea832f549b", func := "loop.example/g00851/laws.FnExactApartIn", spec := "fnExactApartIn", apart := false }
def FnExactApartInSaid : Prop := fnExactApartInRow.holds Try.pinned (OpenSpec.ofChange fnExactApartInSpec)

/-- ITS FALSE NEIGHBOUR: 'it returns false'. Refute it at one input. -/
def fnExactApartInWrong : ChangeSpec := { name := "fnExactApartIn", fn := fun _ => fun
  | [d] => { results := [.lit (.bool false)], args := [d] }
  | _ => none }
def FnExactApartInWrongFalsely : Prop := fnExactApartInRow.holds Try.pinned (OpenSpec.ofChange fnExactApartInWrong)

/-- 'laws.FnExactTimersOk': WHATEVER THE INPUT: true; the input reads as it did. -/
def fnExactTimersOkSpec : ChangeSpec := { name := "fnExactTimersOk", fn := fun _ => fun
  | [d] => { results := [.lit (.bool true)], args := [d] }
  | _ => none }
def fnExactTimersOkRow : OpenClaim := { program := "ythcagdcbifdfeaa", sum := "9fc04cbb4796c29b22d85a7c09fca9c5ad8f7af23055e62c0bf4e5ea832f549b", func := "loop.example/g00851/laws.FnExactTimersOk", spec := "fnExactTimersOk", unfollowed := true, recurses := true, apart := false }
def FnExactTimersOkSaid : Prop := fnExactTimersOkRow.holds Try.pinned (OpenSpec.ofChange fnExactTimersOkSpec)

/-- ITS FALSE NEIGHBOUR: 'it returns false'. Refute it at one input. -/
def fnExactTimersOkWrong : ChangeSpec := { name := "fnExactTimersOk", fn := fun _ => fun
  | [d] => { results := [.lit (.bool false)], args := [d] }
  | _ => none }
def FnExactTimersOkWrongFalsely : Prop := fnExactTimersOkRow.holds Try.pinned (OpenSpec.ofChange fnExactTimersOkWrong)

/-- 'laws.FnExactTimerSet': WHATEVER THE INPUT: true; the input reads as it did. -/
def fnExactTimerSetSpec : ChangeSpec := { name := "fnExactTimerSet", fn := fun _ => fun
  | [d1, d2, d3] => { results := [.lit (.bool true)], args := [d1, d2, d3] }
  | _ => none }
def fnExactTimerSetRow : OpenClaim := { program := "ythcagdcbifdfeaa", sum := "9fc04cbb4796c29b22d85a7c09fca9c5ad8f7af23055e62c0bf4e5ea832f549b", func := "loop.example/g00851/laws.FnExactTimerSet", spec := "fnExactTimerSet", inPlace := ["slices.overlaps[loop.example/g00851/impl.Timer]"], unfollowed := true, recurses := true, apart := false }
def FnExactTimerSetSaid : Prop := fnExactTimerSetRow.holds Try.pinned (OpenSpec.ofChange fnExactTimerSetSpec)

/-- ITS FALSE NEIGHBOUR: 'it returns false'. Refute it at one input. -/
def fnExactTimerSetWrong : ChangeSpec := { name := "fnExactTimerSet", fn := fun _ => fun
  | [d1, d2, d3] => { results := [.lit (.bool false)], args := [d1, d2, d3] }
  | _ => none }
def FnExactTimerSetWrongFalsely : Prop := fnExactTimerSetRow.holds Try.pinned (OpenSpec.ofChange fnExactTimerSetWrong)

/-- 'laws.FnExactTimerOff': WHATEVER THE INPUT: true; the input reads as it did. -/
def fnExactTimerOffSpec : ChangeSpec := { name := "fnExactTimerOff", fn := fun _ => fun
  | [d1, d2] => { results := [.lit (.bool true)], args := [d1, d2] }
  | _ => none }
def fnExactTimerOffRow : OpenClaim := { program := "ythcagdcbifdfeaa", sum := "9fc04cbb4796c29b22d85a7c09fca9c5ad8f7af23055e62c0bf4e5ea832f549b", func := "loop.example/g00851/laws.FnExactTimerOff", spec := "fnExactTimerOff", unfollowed := true, recurses := true, apart := false }
def FnExactTimerOffSaid : Prop := fnExactTimerOffRow.holds Try.pinned (OpenSpec.ofChange fnExactTimerOffSpec)

/-- ITS FALSE NEIGHBOUR: 'it returns false'. Refute it at one input. -/
def fnExactTimerOffWrong : ChangeSpec := { name := "fnExactTimerOff", fn := fun _ => fun
  | [d1, d2] => { results := [.lit (.bool false)], args := [d1, d2] }
  | _ => none }
def FnExactTimerOffWrongFalsely : Prop := fnExactTimerOffRow.holds Try.pinned (OpenSpec.ofChange fnExactTimerOffWrong)

/-- 'laws.FnExactDueIn': WHATEVER THE INPUT: true; the input reads as it did. -/
def fnExactDueInSpec : ChangeSpec := { name := "fnExactDueIn", fn := fun _ => fun
  | [d1, d2] => { results := [.lit (.bool true)], args := [d1, d2] }
  | _ => none }
def fnExactDueInRow : OpenClaim := { program := "ythcagdcbifdfeaa", sum := "9fc04cbb4796c29b22d85a7c09fca9c5ad8f7af23055e62c0bf4e5ea832f549b", func := "loop.example/g00851/laws.FnExactDueIn", spec := "fnExactDueIn", unfollowed := true, recurses := true, apart := false }
def FnExactDueInSaid : Prop := fnExactDueInRow.holds Try.pinned (OpenSpec.ofChange fnExactDueInSpec)

/-- ITS FALSE NEIGHBOUR: 'it returns false'. Refute it at one input. -/
def fnExactDueInWrong : ChangeSpec := { name := "fnExactDueIn", fn := fun _ => fun
  | [d1, d2] => { results := [.lit (.bool false)], args := [d1, d2] }
  | _ => none }
def FnExactDueInWrongFalsely : Prop := fnExactDueInRow.holds Try.pinned (OpenSpec.ofChange fnExactDueInWrong)

/-- 'laws.FnExactNextDue': WHATEVER THE INPUT: true; the input reads as it did. -/
def fnExactNextDueSpec : ChangeSpec := { name := "fnExactNextDue", fn := fun _ => fun
  | [d] => { results := [.lit (.bool true)], args := [d] }
  | _ => none }
def fnExactNextDueRow : OpenClaim := { program := "ythcagdcbifdfeaa", sum := "9fc04cbb4796c29b22d85a7c09fca9c5ad8f7af23055e62c0bf4e5ea832f549b", func := "loop.example/g00851/laws.FnExactNextDue", spec := "fnExactNextDue", unfollowed := true, recurses := true, apart := false }
def FnExactNextDueSaid : Prop := fnExactNextDueRow.holds Try.pinned (OpenSpec.ofChange fnExactNextDueSpec)

/-- ITS FALSE NEIGHBOUR: 'it returns false'. Refute it at one input. -/
def fnExactNextDueWrong : ChangeSpec := { name := "fnExactNextDue", fn := fun _ => fun
  | [d] => { results := [.lit (.bool false)], args := [d] }
  | _ => none }
def FnExactNextDueWrongFalsely : Prop := fnExactNextDueRow.holds Try.pinned (OpenSpec.ofChange fnExactNextDueWrong)

/- THE SECOND FORM. 'bulk': how many values and letters a reading holds, each counted each time it is reached (what is shared counts as often as it is met; a slice's spare places count too). A statement '..UptoSaid' is the law's where the arguments, and the package variables that the reading takes, are together of bulk at most 1048576: NARROWER than '..Said'. Prove '..Said' where nothing that the law and all that it calls make is longer than what came in: it says more and counts as full. Else prove '..UptoSaid'. A law counts once. -/
mutual
def uptoBulk {H : Type} : DataW H → Nat
  | .lit (.string bytes) => bytes.length + 1
  | .lit _ => 1
  | .nil => 1
  | .ptr d => uptoBulk d + 1
  | .slice elems spare => uptoBulkAll elems + uptoBulkAll spare + 1
  | .agg parts => uptoBulkAll parts + 1
  | .iface _ d => uptoBulk d + 1
  | .map entries => uptoBulkEntries entries + 1
  | .held _ => 1
def uptoBulkAll {H : Type} : List (DataW H) → Nat
  | [] => 0
  | d :: r => uptoBulk d + uptoBulkAll r
def uptoBulkEntries {H : Type} : List (Lit × DataW H) → Nat
  | [] => 0
  | x :: r => uptoBulkEntry x + uptoBulkEntries r
def uptoBulkEntry {H : Type} : Lit × DataW H → Nat
  | (.string bytes, d) => bytes.length + uptoBulk d + 1
  | (_, d) => uptoBulk d + 1
 end
def uptoSmall : (H : Type) → List (DataW H) → Bool := fun _ ds => decide (uptoBulkAll ds ≤ 1048576)
def OpenSpec.upto (s : _root_.Go.ChangeSpec) : _root_.Go.OpenSpec := { _root_.Go.OpenSpec.ofChange s with cond := some uptoSmall }

/-- 'laws.FnFlight', WHERE WHAT IT READS IS OF BULK AT MOST 1048576: true; the input reads as it did. -/
def fnFlightUptoRow : OpenClaim := { program := "ythcagdcbifdfeaa", sum := "9fc04cbb4796c29b22d85a7c09fca9c5ad8f7af23055e62c0bf4e5ea832f549b", func := "loop.example/g00851/laws.FnFlight", spec := "fnFlight", apart := false, narrowed := true }
def FnFlightUptoSaid : Prop := fnFlightUptoRow.holds Try.pinned (OpenSpec.upto fnFlightSpec)

/-- 'laws.FnClocks', WHERE WHAT IT READS IS OF BULK AT MOST 1048576: true; the input reads as it did. -/
def fnClocksUptoRow : OpenClaim := { program := "ythcagdcbifdfeaa", sum := "9fc04cbb4796c29b22d85a7c09fca9c5ad8f7af23055e62c0bf4e5ea832f549b", func := "loop.example/g00851/laws.FnClocks", spec := "fnClocks", apart := false, narrowed := true }
def FnClocksUptoSaid : Prop := fnClocksUptoRow.holds Try.pinned (OpenSpec.upto fnClocksSpec)

/-- 'laws.FnTimers', WHERE WHAT IT READS IS OF BULK AT MOST 1048576: true; the input reads as it did. -/
def fnTimersUptoRow : OpenClaim := { program := "ythcagdcbifdfeaa", sum := "9fc04cbb4796c29b22d85a7c09fca9c5ad8f7af23055e62c0bf4e5ea832f549b", func := "loop.example/g00851/laws.FnTimers", spec := "fnTimers", inPlace := ["slices.overlaps[loop.example/g00851/impl.Timer]"], unfollowed := true, recurses := true, apart := false, narrowed := true }
def FnTimersUptoSaid : Prop := fnTimersUptoRow.holds Try.pinned (OpenSpec.upto fnTimersSpec)

/-- 'laws.FnExactTimeOk', WHERE WHAT IT READS IS OF BULK AT MOST 1048576: true; the input reads as it did. -/
def fnExactTimeOkUptoRow : OpenClaim := { program := "ythcagdcbifdfeaa", sum := "9fc04cbb4796c29b22d85a7c09fca9c5ad8f7af23055e62c0bf4e5ea832f549b", func := "loop.example/g00851/laws.FnExactTimeOk", spec := "fnExactTimeOk", apart := false, narrowed := true }
def FnExactTimeOkUptoSaid : Prop := fnExactTimeOkUptoRow.holds Try.pinned (OpenSpec.upto fnExactTimeOkSpec)

/-- 'laws.FnExactClocksOk', WHERE WHAT IT READS IS OF BULK AT MOST 1048576: true; the input reads as it did. -/
def fnExactClocksOkUptoRow : OpenClaim := { program := "ythcagdcbifdfeaa", sum := "9fc04cbb4796c29b22d85a7c09fca9c5ad8f7af23055e62c0bf4e5ea832f549b", func := "loop.example/g00851/laws.FnExactClocksOk", spec := "fnExactClocksOk", apart := false, narrowed := true }
def FnExactClocksOkUptoSaid : Prop := fnExactClocksOkUptoRow.holds Try.pinned (OpenSpec.upto fnExactClocksOkSpec)

/-- 'laws.FnExactTicked', WHERE WHAT IT READS IS OF BULK AT MOST 1048576: true; the input reads as it did. -/
def fnExactTickedUptoRow : OpenClaim := { program := "ythcagdcbifdfeaa", sum := "9fc04cbb4796c29b22d85a7c09fca9c5ad8f7af23055e62c0bf4e5ea832f549b", func := "loop.example/g00851/laws.FnExactTicked", spec := "fnExactTicked", apart := false, narrowed := true }
def FnExactTickedUptoSaid : Prop := fnExactTickedUptoRow.holds Try.pinned (OpenSpec.upto fnExactTickedSpec)

/-- 'laws.FnExactJumped', WHERE WHAT IT READS IS OF BULK AT MOST 1048576: true; the input reads as it did. -/
def fnExactJumpedUptoRow : OpenClaim := { program := "ythcagdcbifdfeaa", sum := "9fc04cbb4796c29b22d85a7c09fca9c5ad8f7af23055e62c0bf4e5ea832f549b", func := "loop.example/g00851/laws.FnExactJumped", spec := "fnExactJumped", apart := false, narrowed := true }
def FnExactJumpedUptoSaid : Prop := fnExactJumpedUptoRow.holds Try.pinned (OpenSpec.upto fnExactJumpedSpec)

/-- 'laws.FnExactLatest', WHERE WHAT IT READS IS OF BULK AT MOST 1048576: true; the input reads as it did. -/
def fnExactLatestUptoRow : OpenClaim := { program := "ythcagdcbifdfeaa", sum := "9fc04cbb4796c29b22d85a7c09fca9c5ad8f7af23055e62c0bf4e5ea832f549b", func := "loop.example/g00851/laws.FnExactLatest", spec := "fnExactLatest", apart := false, narrowed := true }
def FnExactLatestUptoSaid : Prop := fnExactLatestUptoRow.holds Try.pinned (OpenSpec.upto fnExactLatestSpec)

/-- 'laws.FnExactApartIn', WHERE WHAT IT READS IS OF BULK AT MOST 1048576: true; the input reads as it did. -/
def fnExactApartInUptoRow : OpenClaim := { program := "ythcagdcbifdfeaa", sum := "9fc04cbb4796c29b22d85a7c09fca9c5ad8f7af23055e62c0bf4e5ea832f549b", func := "loop.example/g00851/laws.FnExactApartIn", spec := "fnExactApartIn", apart := false, narrowed := true }
def FnExactApartInUptoSaid : Prop := fnExactApartInUptoRow.holds Try.pinned (OpenSpec.upto fnExactApartInSpec)

/-- 'laws.FnExactTimersOk', WHERE WHAT IT READS IS OF BULK AT MOST 1048576: true; the input reads as it did. -/
def fnExactTimersOkUptoRow : OpenClaim := { program := "ythcagdcbifdfeaa", sum := "9fc04cbb4796c29b22d85a7c09fca9c5ad8f7af23055e62c0bf4e5ea832f549b", func := "loop.example/g00851/laws.FnExactTimersOk", spec := "fnExactTimersOk", unfollowed := true, recurses := true, apart := false, narrowed := true }
def FnExactTimersOkUptoSaid : Prop := fnExactTimersOkUptoRow.holds Try.pinned (OpenSpec.upto fnExactTimersOkSpec)

/-- 'laws.FnExactTimerSet', WHERE WHAT IT READS IS OF BULK AT MOST 1048576: true; the input reads as it did. -/
def fnExactTimerSetUptoRow : OpenClaim := { program := "ythcagdcbifdfeaa", sum := "9fc04cbb4796c29b22d85a7c09fca9c5ad8f7af23055e62c0bf4e5ea832f549b", func := "loop.example/g00851/laws.FnExactTimerSet", spec := "fnExactTimerSet", inPlace := ["slices.overlaps[loop.example/g00851/impl.Timer]"], unfollowed := true, recurses := true, apart := false, narrowed := true }
def FnExactTimerSetUptoSaid : Prop := fnExactTimerSetUptoRow.holds Try.pinned (OpenSpec.upto fnExactTimerSetSpec)

/-- 'laws.FnExactTimerOff', WHERE WHAT IT READS IS OF BULK AT MOST 1048576: true; the input reads as it did. -/
def fnExactTimerOffUptoRow : OpenClaim := { program := "ythcagdcbifdfeaa", sum := "9fc04cbb4796c29b22d85a7c09fca9c5ad8f7af23055e62c0bf4e5ea832f549b", func := "loop.example/g00851/laws.FnExactTimerOff", spec := "fnExactTimerOff", unfollowed := true, recurses := true, apart := false, narrowed := true }
def FnExactTimerOffUptoSaid : Prop := fnExactTimerOffUptoRow.holds Try.pinned (OpenSpec.upto fnExactTimerOffSpec)

/-- 'laws.FnExactDueIn', WHERE WHAT IT READS IS OF BULK AT MOST 1048576: true; the input reads as it did. -/
def fnExactDueInUptoRow : OpenClaim := { program := "ythcagdcbifdfeaa", sum := "9fc04cbb4796c29b22d85a7c09fca9c5ad8f7af23055e62c0bf4e5ea832f549b", func := "loop.example/g00851/laws.FnExactDueIn", spec := "fnExactDueIn", unfollowed := true, recurses := true, apart := false, narrowed := true }
def FnExactDueInUptoSaid : Prop := fnExactDueInUptoRow.holds Try.pinned (OpenSpec.upto fnExactDueInSpec)

/-- 'laws.FnExactNextDue', WHERE WHAT IT READS IS OF BULK AT MOST 1048576: true; the input reads as it did. -/
def fnExactNextDueUptoRow : OpenClaim := { program := "ythcagdcbifdfeaa", sum := "9fc04cbb4796c29b22d85a7c09fca9c5ad8f7af23055e62c0bf4e5ea832f549b", func := "loop.example/g00851/laws.FnExactNextDue", spec := "fnExactNextDue", unfollowed := true, recurses := true, apart := false, narrowed := true }
def FnExactNextDueUptoSaid : Prop := fnExactNextDueUptoRow.holds Try.pinned (OpenSpec.upto fnExactNextDueSpec)

end Rows
end Go.Proofs.Ythcagdcbifdfeaa

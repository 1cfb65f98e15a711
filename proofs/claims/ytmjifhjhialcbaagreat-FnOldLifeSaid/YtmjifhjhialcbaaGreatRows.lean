/-
  No cell of these rows narrows 'for every input' (looked for: loops, veiled, ifaces, maps, wideKeys, modest, calm, conditions, laid).
  DERIVED. THE GIVEN ROWS OF THIS SEAT. 5 by the template 'for every input the law returns true; each argument reads behind the call as it read before'; 0 by the template 'total and deterministic' (their statements: YtmjifhjhialcbaaGreatTotals.lean).
  GIVEN WITH THE SEED: the statements are not yours to turn. If you find one false, say at which input.
  Laid BY PROGRAM, IN A SANDBOX (cutbox-rows.mjs): the forced cells as the released guide's own fill.sh prints them over the translation b17393b9f0239c88… (all of the seat's roots in one cut). By AI agents, Wed Nov 11 2026. No macro, syntax, notation, axiom, sorry.
-/
import Derived.Test.YtmjifhjhialcbaaGreatChecked
import GoSem.Claim
import GoSem.ClaimJoined
import GoSem.ClaimMapViews
import Derived.JoinedTies
import Derived.KernelRfl
namespace Go.Proofs.YtmjifhjhialcbaaGreat
/- THE CELL 'sum', in the pinned program and in every row, IS THE sha256 OF THE DUMP (.gsa) THAT YtmjifhjhialcbaaGreatProg.lean LOADS. Nothing in Lean hashes anything: it is a label: what it is worth is what the hold of that sum in a sandbox is worth. -/
noncomputable def Tryz.pinned : Pinned := { name := "ytmjifhjhialcbaagreat", sum := "b17393b9f0239c88d5ae4eaf700b7b258c98f7212d2f92583aa48b622af838a9", checked := Tryz.checked }
namespace Rows
def none {H : Type} : Left H := { results := [], args := [] }

/-- 'laws.FnKept': WHATEVER THE INPUT: true; the input reads as it did. -/
def fnKeptSpec : ChangeSpec := { name := "fnKept", fn := fun _ => fun
  | [d] => { results := [.lit (.bool true)], args := [d] }
  | _ => none }
def fnKeptRow : OpenClaim := { program := "ytmjifhjhialcbaagreat", sum := "b17393b9f0239c88d5ae4eaf700b7b258c98f7212d2f92583aa48b622af838a9", func := "loop.example/g00851/laws.FnKept", spec := "fnKept", unfollowed := true, recurses := true, apart := false }
def FnKeptSaid : Prop := fnKeptRow.holds Tryz.pinned (OpenSpec.ofChange fnKeptSpec)

/-- ITS FALSE NEIGHBOUR: 'it returns false'. Refute it at one input. -/
def fnKeptWrong : ChangeSpec := { name := "fnKept", fn := fun _ => fun
  | [d] => { results := [.lit (.bool false)], args := [d] }
  | _ => none }
def FnKeptWrongFalsely : Prop := fnKeptRow.holds Tryz.pinned (OpenSpec.ofChange fnKeptWrong)

/-- 'laws.FnOldLife': WHATEVER THE INPUT: true; the input reads as it did. -/
def fnOldLifeSpec : ChangeSpec := { name := "fnOldLife", fn := fun _ => fun
  | [d] => { results := [.lit (.bool true)], args := [d] }
  | _ => none }
def fnOldLifeRow : OpenClaim := { program := "ytmjifhjhialcbaagreat", sum := "b17393b9f0239c88d5ae4eaf700b7b258c98f7212d2f92583aa48b622af838a9", func := "loop.example/g00851/laws.FnOldLife", spec := "fnOldLife", unfollowed := true, recurses := true, apart := false }
def FnOldLifeSaid : Prop := fnOldLifeRow.holds Tryz.pinned (OpenSpec.ofChange fnOldLifeSpec)

/-- ITS FALSE NEIGHBOUR: 'it returns false'. Refute it at one input. -/
def fnOldLifeWrong : ChangeSpec := { name := "fnOldLife", fn := fun _ => fun
  | [d] => { results := [.lit (.bool false)], args := [d] }
  | _ => none }
def FnOldLifeWrongFalsely : Prop := fnOldLifeRow.holds Tryz.pinned (OpenSpec.ofChange fnOldLifeWrong)

/-- 'laws.FnRecoveredAgain': WHATEVER THE INPUT: true; the input reads as it did. -/
def fnRecoveredAgainSpec : ChangeSpec := { name := "fnRecoveredAgain", fn := fun _ => fun
  | [d] => { results := [.lit (.bool true)], args := [d] }
  | _ => none }
def fnRecoveredAgainRow : OpenClaim := { program := "ytmjifhjhialcbaagreat", sum := "b17393b9f0239c88d5ae4eaf700b7b258c98f7212d2f92583aa48b622af838a9", func := "loop.example/g00851/laws.FnRecoveredAgain", spec := "fnRecoveredAgain", unfollowed := true, recurses := true, apart := false }
def FnRecoveredAgainSaid : Prop := fnRecoveredAgainRow.holds Tryz.pinned (OpenSpec.ofChange fnRecoveredAgainSpec)

/-- ITS FALSE NEIGHBOUR: 'it returns false'. Refute it at one input. -/
def fnRecoveredAgainWrong : ChangeSpec := { name := "fnRecoveredAgain", fn := fun _ => fun
  | [d] => { results := [.lit (.bool false)], args := [d] }
  | _ => none }
def FnRecoveredAgainWrongFalsely : Prop := fnRecoveredAgainRow.holds Tryz.pinned (OpenSpec.ofChange fnRecoveredAgainWrong)

/-- 'laws.FnExactBookIn': WHATEVER THE INPUT: true; the input reads as it did. -/
def fnExactBookInSpec : ChangeSpec := { name := "fnExactBookIn", fn := fun _ => fun
  | [d1, d2] => { results := [.lit (.bool true)], args := [d1, d2] }
  | _ => none }
def fnExactBookInRow : OpenClaim := { program := "ytmjifhjhialcbaagreat", sum := "b17393b9f0239c88d5ae4eaf700b7b258c98f7212d2f92583aa48b622af838a9", func := "loop.example/g00851/laws.FnExactBookIn", spec := "fnExactBookIn", unfollowed := true, recurses := true, apart := false }
def FnExactBookInSaid : Prop := fnExactBookInRow.holds Tryz.pinned (OpenSpec.ofChange fnExactBookInSpec)

/-- ITS FALSE NEIGHBOUR: 'it returns false'. Refute it at one input. -/
def fnExactBookInWrong : ChangeSpec := { name := "fnExactBookIn", fn := fun _ => fun
  | [d1, d2] => { results := [.lit (.bool false)], args := [d1, d2] }
  | _ => none }
def FnExactBookInWrongFalsely : Prop := fnExactBookInRow.holds Tryz.pinned (OpenSpec.ofChange fnExactBookInWrong)

/-- 'laws.FnExactRecovered': WHATEVER THE INPUT: true; the input reads as it did. -/
def fnExactRecoveredSpec : ChangeSpec := { name := "fnExactRecovered", fn := fun _ => fun
  | [d] => { results := [.lit (.bool true)], args := [d] }
  | _ => none }
def fnExactRecoveredRow : OpenClaim := { program := "ytmjifhjhialcbaagreat", sum := "b17393b9f0239c88d5ae4eaf700b7b258c98f7212d2f92583aa48b622af838a9", func := "loop.example/g00851/laws.FnExactRecovered", spec := "fnExactRecovered", unfollowed := true, recurses := true, apart := false }
def FnExactRecoveredSaid : Prop := fnExactRecoveredRow.holds Tryz.pinned (OpenSpec.ofChange fnExactRecoveredSpec)

/-- ITS FALSE NEIGHBOUR: 'it returns false'. Refute it at one input. -/
def fnExactRecoveredWrong : ChangeSpec := { name := "fnExactRecovered", fn := fun _ => fun
  | [d] => { results := [.lit (.bool false)], args := [d] }
  | _ => none }
def FnExactRecoveredWrongFalsely : Prop := fnExactRecoveredRow.holds Tryz.pinned (OpenSpec.ofChange fnExactRecoveredWrong)

/- THE SECOND FORM. 'bulk': how many values and letters a reading holds, each counted each time it is reached (what is shared counts as often as it is met; a slice's spare places count too). A statement '..UptoSaid' is the law's where the arguments, and the package variables that the reading takes, are together of bulk at most 1048576: NARROWER than '..Said'. Prove '..Said' where nothing that the law and all that it calls make is longer than what came in: it says more and counts as full. Else prove '..UptoSaid'. A law counts once. -/
mutual
def uptoBulk {H : Type} : DataW H → Nat
  | .lit (.string bytes) => bytes.length + 1
  | .lit _ => 1
  | .nil => 1
  | .ptr d => uptoBulk d + 1
  | .slice elems spare => uptoBulkAll elems + uptoBulkAll spare + 1
  | .agg parts => uptoBulkAll parts + 1
  | .iface _ d => uptoBulk d + 1
  | .map entries => uptoBulkEntries entries + 1
  | .held _ => 1
def uptoBulkAll {H : Type} : List (DataW H) → Nat
  | [] => 0
  | d :: r => uptoBulk d + uptoBulkAll r
def uptoBulkEntries {H : Type} : List (Lit × DataW H) → Nat
  | [] => 0
  | x :: r => uptoBulkEntry x + uptoBulkEntries r
def uptoBulkEntry {H : Type} : Lit × DataW H → Nat
  | (.string bytes, d) => bytes.length + uptoBulk d + 1
  | (_, d) => uptoBulk d + 1
 end
def uptoSmall : (H : Type) → List (DataW H) → Bool := fun _ ds => decide (uptoBulkAll ds ≤ 1048576)
def OpenSpec.upto (s : _root_.Go.ChangeSpec) : _root_.Go.OpenSpec := { _root_.Go.OpenSpec.ofChange s with cond := some uptoSmall }

/-- 'laws.FnKept', WHERE WHAT IT READS IS OF BULK AT MOST 1048576: true; the input reads as it did. -/
def fnKeptUptoRow : OpenClaim := { program := "ytmjifhjhialcbaagreat", sum := "b17393b9f0239c88d5ae4eaf700b7b258c98f7212d2f92583aa48b622af838a9", func := "loop.example/g00851/laws.FnKept", spec := "fnKept", unfollowed := true, recurses := true, apart := false, narrowed := true }
def FnKeptUptoSaid : Prop := fnKeptUptoRow.holds Tryz.pinned (OpenSpec.upto fnKeptSpec)

/-- 'laws.FnOldLife', WHERE WHAT IT READS IS OF BULK AT MOST 1048576: true; the input reads as it did. -/
def fnOldLifeUptoRow : OpenClaim := { program := "ytmjifhjhialcbaagreat", sum := "b17393b9f0239c88d5ae4eaf700b7b258c98f7212d2f92583aa48b622af838a9", func := "loop.example/g00851/laws.FnOldLife", spec := "fnOldLife", unfollowed := true, recurses := true, apart := false, narrowed := true }
def FnOldLifeUptoSaid : Prop := fnOldLifeUptoRow.holds Tryz.pinned (OpenSpec.upto fnOldLifeSpec)

/-- 'laws.FnRecoveredAgain', WHERE WHAT IT READS IS OF BULK AT MOST 1048576: true; the input reads as it did. -/
def fnRecoveredAgainUptoRow : OpenClaim := { program := "ytmjifhjhialcbaagreat", sum := "b17393b9f0239c88d5ae4eaf700b7b258c98f7212d2f92583aa48b622af838a9", func := "loop.example/g00851/laws.FnRecoveredAgain", spec := "fnRecoveredAgain", unfollowed := true, recurses := true, apart := false, narrowed := true }
def FnRecoveredAgainUptoSaid : Prop := fnRecoveredAgainUptoRow.holds Tryz.pinned (OpenSpec.upto fnRecoveredAgainSpec)

/-- 'laws.FnExactBookIn', WHERE WHAT IT READS IS OF BULK AT MOST 1048576: true; the input reads as it did. -/
def fnExactBookInUptoRow : OpenClaim := { program := "ytmjifhjhialcbaagreat", sum := "b17393b9f0239c88d5ae4eaf700b7b258c98f7212d2f92583aa48b622af838a9", func := "loop.example/g00851/laws.FnExactBookIn", spec := "fnExactBookIn", unfollowed := true, recurses := true, apart := false, narrowed := true }
def FnExactBookInUptoSaid : Prop := fnExactBookInUptoRow.holds Tryz.pinned (OpenSpec.upto fnExactBookInSpec)

/-- 'laws.FnExactRecovered', WHERE WHAT IT READS IS OF BULK AT MOST 1048576: true; the input reads as it did. -/
def fnExactRecoveredUptoRow : OpenClaim := { program := "ytmjifhjhialcbaagreat", sum := "b17393b9f0239c88d5ae4eaf700b7b258c98f7212d2f92583aa48b622af838a9", func := "loop.example/g00851/laws.FnExactRecovered", spec := "fnExactRecovered", unfollowed := true, recurses := true, apart := false, narrowed := true }
def FnExactRecoveredUptoSaid : Prop := fnExactRecoveredUptoRow.holds Tryz.pinned (OpenSpec.upto fnExactRecoveredSpec)

end Rows
end Go.Proofs.YtmjifhjhialcbaaGreat

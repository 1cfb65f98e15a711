/-
  No cell of these rows narrows 'for every input' (looked for: loops, veiled, ifaces, maps, wideKeys, modest, calm, conditions, laid).
  DERIVED. THE GIVEN ROWS OF THIS SEAT. 4 by the template 'for every input the law returns true; each argument reads behind the call as it read before'; 0 by the template 'total and deterministic' (their statements: YtepnghjmpbfmcaaTotals.lean).
  GIVEN WITH THE SEED: the statements are not yours to turn. If you find one false, say at which input.
  Laid BY PROGRAM, IN A SANDBOX (cutbox-rows.mjs): the forced cells as the released guide's own fill.sh prints them over the translation 5cfb7a3649b3056b… (all of the seat's roots in one cut). By AI agents, Wed Nov 11 2026. No macro, syntax, notation, axiom, sorry.
-/
import Derived.Test.YtepnghjmpbfmcaaChecked
import GoSem.Claim
import GoSem.ClaimJoined
import GoSem.ClaimMapViews
import Derived.JoinedTies
import Derived.KernelRfl
namespace Go.Proofs.Ytepnghjmpbfmcaa
/- THE CELL 'sum', in the pinned program and in every row, IS THE sha256 OF THE DUMP (.gsa) THAT YtepnghjmpbfmcaaProg.lean LOADS. Nothing in Lean hashes anything: it is a label: what it is worth is what the hold of that sum in a sandbox is worth. -/
noncomputable def Try.pinned : Pinned := { name := "ytepnghjmpbfmcaa", sum := "5cfb7a3649b3056b184373e7da040828e764998b5aa41aeb1bd75f65cea6e473", checked := Try.checked }
namespace Rows
def none {H : Type} : Left H := { results := [], args := [] }

/-- 'laws.FnExactRowJobs': WHATEVER THE INPUT: true; the input reads as it did. -/
def fnExactRowJobsSpec : ChangeSpec := { name := "fnExactRowJobs", fn := fun _ => fun
  | [d] => { results := [.lit (.bool true)], args := [d] }
  | _ => none }
def fnExactRowJobsRow : OpenClaim := { program := "ytepnghjmpbfmcaa", sum := "5cfb7a3649b3056b184373e7da040828e764998b5aa41aeb1bd75f65cea6e473", func := "loop.example/g00851/laws.FnExactRowJobs", spec := "fnExactRowJobs", unfollowed := true, recurses := true, apart := false }
def FnExactRowJobsSaid : Prop := fnExactRowJobsRow.holds Try.pinned (OpenSpec.ofChange fnExactRowJobsSpec)

/-- ITS FALSE NEIGHBOUR: 'it returns false'. Refute it at one input. -/
def fnExactRowJobsWrong : ChangeSpec := { name := "fnExactRowJobs", fn := fun _ => fun
  | [d] => { results := [.lit (.bool false)], args := [d] }
  | _ => none }
def FnExactRowJobsWrongFalsely : Prop := fnExactRowJobsRow.holds Try.pinned (OpenSpec.ofChange fnExactRowJobsWrong)

/-- 'laws.FnOneKind': WHATEVER THE INPUT: true; the input reads as it did. -/
def fnOneKindSpec : ChangeSpec := { name := "fnOneKind", fn := fun _ => fun
  | [d] => { results := [.lit (.bool true)], args := [d] }
  | _ => none }
def fnOneKindRow : OpenClaim := { program := "ytepnghjmpbfmcaa", sum := "5cfb7a3649b3056b184373e7da040828e764998b5aa41aeb1bd75f65cea6e473", func := "loop.example/g00851/laws.FnOneKind", spec := "fnOneKind", unfollowed := true, recurses := true, apart := false }
def FnOneKindSaid : Prop := fnOneKindRow.holds Try.pinned (OpenSpec.ofChange fnOneKindSpec)

/-- ITS FALSE NEIGHBOUR: 'it returns false'. Refute it at one input. -/
def fnOneKindWrong : ChangeSpec := { name := "fnOneKind", fn := fun _ => fun
  | [d] => { results := [.lit (.bool false)], args := [d] }
  | _ => none }
def FnOneKindWrongFalsely : Prop := fnOneKindRow.holds Try.pinned (OpenSpec.ofChange fnOneKindWrong)

/-- 'laws.FnLettersBack': WHATEVER THE INPUT: true; the input reads as it did. -/
def fnLettersBackSpec : ChangeSpec := { name := "fnLettersBack", fn := fun _ => fun
  | [d] => { results := [.lit (.bool true)], args := [d] }
  | _ => none }
def fnLettersBackRow : OpenClaim := { program := "ytepnghjmpbfmcaa", sum := "5cfb7a3649b3056b184373e7da040828e764998b5aa41aeb1bd75f65cea6e473", func := "loop.example/g00851/laws.FnLettersBack", spec := "fnLettersBack", unfollowed := true, recurses := true, apart := false }
def FnLettersBackSaid : Prop := fnLettersBackRow.holds Try.pinned (OpenSpec.ofChange fnLettersBackSpec)

/-- ITS FALSE NEIGHBOUR: 'it returns false'. Refute it at one input. -/
def fnLettersBackWrong : ChangeSpec := { name := "fnLettersBack", fn := fun _ => fun
  | [d] => { results := [.lit (.bool false)], args := [d] }
  | _ => none }
def FnLettersBackWrongFalsely : Prop := fnLettersBackRow.holds Try.pinned (OpenSpec.ofChange fnLettersBackWrong)

/-- 'laws.FnFedNext': WHATEVER THE INPUT: true; the input reads as it did. -/
def fnFedNextSpec : ChangeSpec := { name := "fnFedNext", fn := fun _ => fun
  | [d] => { results := [.lit (.bool true)], args := [d] }
  | _ => none }
def fnFedNextRow : OpenClaim := { program := "ytepnghjmpbfmcaa", sum := "5cfb7a3649b3056b184373e7da040828e764998b5aa41aeb1bd75f65cea6e473", func := "loop.example/g00851/laws.FnFedNext", spec := "fnFedNext", unfollowed := true, recurses := true, apart := false }
def FnFedNextSaid : Prop := fnFedNextRow.holds Try.pinned (OpenSpec.ofChange fnFedNextSpec)

/-- ITS FALSE NEIGHBOUR: 'it returns false'. Refute it at one input. -/
def fnFedNextWrong : ChangeSpec := { name := "fnFedNext", fn := fun _ => fun
  | [d] => { results := [.lit (.bool false)], args := [d] }
  | _ => none }
def FnFedNextWrongFalsely : Prop := fnFedNextRow.holds Try.pinned (OpenSpec.ofChange fnFedNextWrong)

/- THE SECOND FORM. 'bulk': how many values and letters a reading holds, each counted each time it is reached (what is shared counts as often as it is met; a slice's spare places count too). A statement '..UptoSaid' is the law's where the arguments, and the package variables that the reading takes, are together of bulk at most 1048576: NARROWER than '..Said'. Prove '..Said' where nothing that the law and all that it calls make is longer than what came in: it says more and counts as full. Else prove '..UptoSaid'. A law counts once. -/
mutual
def uptoBulk {H : Type} : DataW H → Nat
  | .lit (.string bytes) => bytes.length + 1
  | .lit _ => 1
  | .nil => 1
  | .ptr d => uptoBulk d + 1
  | .slice elems spare => uptoBulkAll elems + uptoBulkAll spare + 1
  | .agg parts => uptoBulkAll parts + 1
  | .iface _ d => uptoBulk d + 1
  | .map entries => uptoBulkEntries entries + 1
  | .held _ => 1
def uptoBulkAll {H : Type} : List (DataW H) → Nat
  | [] => 0
  | d :: r => uptoBulk d + uptoBulkAll r
def uptoBulkEntries {H : Type} : List (Lit × DataW H) → Nat
  | [] => 0
  | x :: r => uptoBulkEntry x + uptoBulkEntries r
def uptoBulkEntry {H : Type} : Lit × DataW H → Nat
  | (.string bytes, d) => bytes.length + uptoBulk d + 1
  | (_, d) => uptoBulk d + 1
 end
def uptoSmall : (H : Type) → List (DataW H) → Bool := fun _ ds => decide (uptoBulkAll ds ≤ 1048576)
def OpenSpec.upto (s : _root_.Go.ChangeSpec) : _root_.Go.OpenSpec := { _root_.Go.OpenSpec.ofChange s with cond := some uptoSmall }

/-- 'laws.FnExactRowJobs', WHERE WHAT IT READS IS OF BULK AT MOST 1048576: true; the input reads as it did. -/
def fnExactRowJobsUptoRow : OpenClaim := { program := "ytepnghjmpbfmcaa", sum := "5cfb7a3649b3056b184373e7da040828e764998b5aa41aeb1bd75f65cea6e473", func := "loop.example/g00851/laws.FnExactRowJobs", spec := "fnExactRowJobs", unfollowed := true, recurses := true, apart := false, narrowed := true }
def FnExactRowJobsUptoSaid : Prop := fnExactRowJobsUptoRow.holds Try.pinned (OpenSpec.upto fnExactRowJobsSpec)

/-- 'laws.FnOneKind', WHERE WHAT IT READS IS OF BULK AT MOST 1048576: true; the input reads as it did. -/
def fnOneKindUptoRow : OpenClaim := { program := "ytepnghjmpbfmcaa", sum := "5cfb7a3649b3056b184373e7da040828e764998b5aa41aeb1bd75f65cea6e473", func := "loop.example/g00851/laws.FnOneKind", spec := "fnOneKind", unfollowed := true, recurses := true, apart := false, narrowed := true }
def FnOneKindUptoSaid : Prop := fnOneKindUptoRow.holds Try.pinned (OpenSpec.upto fnOneKindSpec)

/-- 'laws.FnLettersBack', WHERE WHAT IT READS IS OF BULK AT MOST 1048576: true; the input reads as it did. -/
def fnLettersBackUptoRow : OpenClaim := { program := "ytepnghjmpbfmcaa", sum := "5cfb7a3649b3056b184373e7da040828e764998b5aa41aeb1bd75f65cea6e473", func := "loop.example/g00851/laws.FnLettersBack", spec := "fnLettersBack", unfollowed := true, recurses := true, apart := false, narrowed := true }
def FnLettersBackUptoSaid : Prop := fnLettersBackUptoRow.holds Try.pinned (OpenSpec.upto fnLettersBackSpec)

/-- 'laws.FnFedNext', WHERE WHAT IT READS IS OF BULK AT MOST 1048576: true; the input reads as it did. -/
def fnFedNextUptoRow : OpenClaim := { program := "ytepnghjmpbfmcaa", sum := "5cfb7a3649b3056b184373e7da040828e764998b5aa41aeb1bd75f65cea6e473", func := "loop.example/g00851/laws.FnFedNext", spec := "fnFedNext", unfollowed := true, recurses := true, apart := false, narrowed := true }
def FnFedNextUptoSaid : Prop := fnFedNextUptoRow.holds Try.pinned (OpenSpec.upto fnFedNextSpec)

end Rows
end Go.Proofs.Ytepnghjmpbfmcaa

/-
  NARROWER THAN 'FOR EVERY INPUT', by the rows' own cells (each row's printed sentence says how): FnExactLogOk: ifaces, laid · FnExactHeldIn: ifaces, laid · FnExactFallenLog: ifaces, laid.
  DERIVED. THE GIVEN ROWS OF THIS SEAT. 3 by the template 'for every input the law returns true; each argument reads behind the call as it read before'; 0 by the template 'total and deterministic' (their statements: YthjjdelpdiipdaaGreatDoorTotals.lean).
  GIVEN WITH THE SEED: the statements are not yours to turn. If you find one false, say at which input.
  Laid BY PROGRAM, IN A SANDBOX (cutbox-rows.mjs): the forced cells as the released guide's own fill.sh prints them over the translation 2519f4d26bef2ad7… (all of the seat's roots in one cut). By AI agents, Wed Nov 11 2026. No macro, syntax, notation, axiom, sorry.
-/
import Derived.Test.YthjjdelpdiipdaaGreatDoorChecked
import GoSem.Claim
import GoSem.ClaimJoined
import GoSem.ClaimMapViews
import Derived.JoinedTies
import Derived.KernelRfl
namespace Go.Proofs.YthjjdelpdiipdaaGreatDoor
/- THE CELL 'sum', in the pinned program and in every row, IS THE sha256 OF THE DUMP (.gsa) THAT YthjjdelpdiipdaaGreatDoorProg.lean LOADS. Nothing in Lean hashes anything: it is a label: what it is worth is what the hold of that sum in a sandbox is worth. -/
noncomputable def Tryz.pinned : Pinned := { name := "ythjjdelpdiipdaagreatdoor", sum := "2519f4d26bef2ad7e24064faf94328437782c3b28fc624fa672d9b0e15342940", checked := Tryz.checked }
namespace Rows
def none {H : Type} : Left H := { results := [], args := [] }

/- WHAT THE LISTED PACKAGE-LEVEL VARIABLES READ AS WHEN THE CALL BEGINS. Each datum BY PROGRAM (the guide's laid-datum.mjs) off the statement by which the dump's own 'gosem.cut.vars' lays the variable. In a bare row this is a premise. The card (YthjjdelpdiipdaaGreatDoorCards.lean) ties it to the program's text. -/
def laid_loop_example_g00851_impl_errNode {H : Type} : DataW H := .iface "*errors.errorString" (.ptr (.agg [.lit (.string [116, 104, 101, 32, 110, 111, 100, 101, 32, 105, 115, 32, 110, 111, 116, 32, 118, 97, 108, 105, 100])]))

/-- 'laws.FnExactLogOk': WHATEVER THE INPUT: true; the input reads as it did. -/
def fnExactLogOkSpec : ChangeSpec := { name := "fnExactLogOk", vars := ["loop.example/g00851/impl.errNode"], fn := fun _ => fun
  | [d, g1] => { results := [.lit (.bool true)], args := [d], vars := [g1] }
  | _ => none }
def fnExactLogOkRow : OpenClaim := { program := "ythjjdelpdiipdaagreatdoor", sum := "2519f4d26bef2ad7e24064faf94328437782c3b28fc624fa672d9b0e15342940", func := "loop.example/g00851/laws.FnExactLogOk", spec := "fnExactLogOk", unfollowed := true, recurses := true, named := ["loop.example/g00851/impl.errNode"], ifaces := true, apart := false, laid := [("loop.example/g00851/impl.errNode", laid_loop_example_g00851_impl_errNode)] }
def FnExactLogOkSaid : Prop := fnExactLogOkRow.holds Tryz.pinned (OpenSpec.ofChange fnExactLogOkSpec)

/-- ITS FALSE NEIGHBOUR: 'it returns false'. Refute it at one input. -/
def fnExactLogOkWrong : ChangeSpec := { name := "fnExactLogOk", vars := ["loop.example/g00851/impl.errNode"], fn := fun _ => fun
  | [d, g1] => { results := [.lit (.bool false)], args := [d], vars := [g1] }
  | _ => none }
def FnExactLogOkWrongFalsely : Prop := fnExactLogOkRow.holds Tryz.pinned (OpenSpec.ofChange fnExactLogOkWrong)

/-- 'laws.FnExactHeldIn': WHATEVER THE INPUT: true; the input reads as it did. -/
def fnExactHeldInSpec : ChangeSpec := { name := "fnExactHeldIn", vars := ["loop.example/g00851/impl.errNode"], fn := fun _ => fun
  | [d, g1] => { results := [.lit (.bool true)], args := [d], vars := [g1] }
  | _ => none }
def fnExactHeldInRow : OpenClaim := { program := "ythjjdelpdiipdaagreatdoor", sum := "2519f4d26bef2ad7e24064faf94328437782c3b28fc624fa672d9b0e15342940", func := "loop.example/g00851/laws.FnExactHeldIn", spec := "fnExactHeldIn", unfollowed := true, recurses := true, named := ["loop.example/g00851/impl.errNode"], ifaces := true, apart := false, laid := [("loop.example/g00851/impl.errNode", laid_loop_example_g00851_impl_errNode)] }
def FnExactHeldInSaid : Prop := fnExactHeldInRow.holds Tryz.pinned (OpenSpec.ofChange fnExactHeldInSpec)

/-- ITS FALSE NEIGHBOUR: 'it returns false'. Refute it at one input. -/
def fnExactHeldInWrong : ChangeSpec := { name := "fnExactHeldIn", vars := ["loop.example/g00851/impl.errNode"], fn := fun _ => fun
  | [d, g1] => { results := [.lit (.bool false)], args := [d], vars := [g1] }
  | _ => none }
def FnExactHeldInWrongFalsely : Prop := fnExactHeldInRow.holds Tryz.pinned (OpenSpec.ofChange fnExactHeldInWrong)

/-- 'laws.FnExactFallenLog': WHATEVER THE INPUT: true; the input reads as it did. -/
def fnExactFallenLogSpec : ChangeSpec := { name := "fnExactFallenLog", vars := ["loop.example/g00851/impl.errNode"], fn := fun _ => fun
  | [d1, d2, g1] => { results := [.lit (.bool true)], args := [d1, d2], vars := [g1] }
  | _ => none }
def fnExactFallenLogRow : OpenClaim := { program := "ythjjdelpdiipdaagreatdoor", sum := "2519f4d26bef2ad7e24064faf94328437782c3b28fc624fa672d9b0e15342940", func := "loop.example/g00851/laws.FnExactFallenLog", spec := "fnExactFallenLog", unfollowed := true, recurses := true, named := ["loop.example/g00851/impl.errNode"], ifaces := true, apart := false, laid := [("loop.example/g00851/impl.errNode", laid_loop_example_g00851_impl_errNode)] }
def FnExactFallenLogSaid : Prop := fnExactFallenLogRow.holds Tryz.pinned (OpenSpec.ofChange fnExactFallenLogSpec)

/-- ITS FALSE NEIGHBOUR: 'it returns false'. Refute it at one input. -/
def fnExactFallenLogWrong : ChangeSpec := { name := "fnExactFallenLog", vars := ["loop.example/g00851/impl.errNode"], fn := fun _ => fun
  | [d1, d2, g1] => { results := [.lit (.bool false)], args := [d1, d2], vars := [g1] }
  | _ => none }
def FnExactFallenLogWrongFalsely : Prop := fnExactFallenLogRow.holds Tryz.pinned (OpenSpec.ofChange fnExactFallenLogWrong)

/- THE SECOND FORM. 'bulk': how many values and letters a reading holds, each counted each time it is reached (what is shared counts as often as it is met; a slice's spare places count too). A statement '..UptoSaid' is the law's where the arguments, and the package variables that the reading takes, are together of bulk at most 1048576: NARROWER than '..Said'. Prove '..Said' where nothing that the law and all that it calls make is longer than what came in: it says more and counts as full. Else prove '..UptoSaid'. A law counts once. -/
mutual
def uptoBulk {H : Type} : DataW H → Nat
  | .lit (.string bytes) => bytes.length + 1
  | .lit _ => 1
  | .nil => 1
  | .ptr d => uptoBulk d + 1
  | .slice elems spare => uptoBulkAll elems + uptoBulkAll spare + 1
  | .agg parts => uptoBulkAll parts + 1
  | .iface _ d => uptoBulk d + 1
  | .map entries => uptoBulkEntries entries + 1
  | .held _ => 1
def uptoBulkAll {H : Type} : List (DataW H) → Nat
  | [] => 0
  | d :: r => uptoBulk d + uptoBulkAll r
def uptoBulkEntries {H : Type} : List (Lit × DataW H) → Nat
  | [] => 0
  | x :: r => uptoBulkEntry x + uptoBulkEntries r
def uptoBulkEntry {H : Type} : Lit × DataW H → Nat
  | (.string bytes, d) => bytes.length + uptoBulk d + 1
  | (_, d) => uptoBulk d + 1
 end
def uptoSmall : (H : Type) → List (DataW H) → Bool := fun _ ds => decide (uptoBulkAll ds ≤ 1048576)
def OpenSpec.upto (s : _root_.Go.ChangeSpec) : _root_.Go.OpenSpec := { _root_.Go.OpenSpec.ofChange s with cond := some uptoSmall }

/-- 'laws.FnExactLogOk', WHERE WHAT IT READS IS OF BULK AT MOST 1048576: true; the input reads as it did. -/
def fnExactLogOkUptoRow : OpenClaim := { program := "ythjjdelpdiipdaagreatdoor", sum := "2519f4d26bef2ad7e24064faf94328437782c3b28fc624fa672d9b0e15342940", func := "loop.example/g00851/laws.FnExactLogOk", spec := "fnExactLogOk", unfollowed := true, recurses := true, named := ["loop.example/g00851/impl.errNode"], ifaces := true, apart := false, laid := [("loop.example/g00851/impl.errNode", laid_loop_example_g00851_impl_errNode)], narrowed := true }
def FnExactLogOkUptoSaid : Prop := fnExactLogOkUptoRow.holds Tryz.pinned (OpenSpec.upto fnExactLogOkSpec)

/-- 'laws.FnExactHeldIn', WHERE WHAT IT READS IS OF BULK AT MOST 1048576: true; the input reads as it did. -/
def fnExactHeldInUptoRow : OpenClaim := { program := "ythjjdelpdiipdaagreatdoor", sum := "2519f4d26bef2ad7e24064faf94328437782c3b28fc624fa672d9b0e15342940", func := "loop.example/g00851/laws.FnExactHeldIn", spec := "fnExactHeldIn", unfollowed := true, recurses := true, named := ["loop.example/g00851/impl.errNode"], ifaces := true, apart := false, laid := [("loop.example/g00851/impl.errNode", laid_loop_example_g00851_impl_errNode)], narrowed := true }
def FnExactHeldInUptoSaid : Prop := fnExactHeldInUptoRow.holds Tryz.pinned (OpenSpec.upto fnExactHeldInSpec)

/-- 'laws.FnExactFallenLog', WHERE WHAT IT READS IS OF BULK AT MOST 1048576: true; the input reads as it did. -/
def fnExactFallenLogUptoRow : OpenClaim := { program := "ythjjdelpdiipdaagreatdoor", sum := "2519f4d26bef2ad7e24064faf94328437782c3b28fc624fa672d9b0e15342940", func := "loop.example/g00851/laws.FnExactFallenLog", spec := "fnExactFallenLog", unfollowed := true, recurses := true, named := ["loop.example/g00851/impl.errNode"], ifaces := true, apart := false, laid := [("loop.example/g00851/impl.errNode", laid_loop_example_g00851_impl_errNode)], narrowed := true }
def FnExactFallenLogUptoSaid : Prop := fnExactFallenLogUptoRow.holds Tryz.pinned (OpenSpec.upto fnExactFallenLogSpec)

end Rows
end Go.Proofs.YthjjdelpdiipdaaGreatDoor

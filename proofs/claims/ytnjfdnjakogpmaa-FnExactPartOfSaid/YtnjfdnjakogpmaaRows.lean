/-
  No cell of these rows narrows 'for every input' (looked for: loops, veiled, ifaces, maps, wideKeys, modest, calm, conditions, laid).
  DERIVED. THE GIVEN ROWS OF THIS SEAT. 10 by the template 'for every input the law returns true; each argument reads behind the call as it read before'; 0 by the template 'total and deterministic' (their statements: YtnjfdnjakogpmaaTotals.lean).
  GIVEN WITH THE SEED: the statements are not yours to turn. If you find one false, say at which input.
  Laid BY PROGRAM, IN A SANDBOX (cutbox-rows.mjs): the forced cells as the released guide's own fill.sh prints them over the translation d3e2c4591619b1f7… (all of the seat's roots in one cut). By AI agents, Wed Nov 11 2026. No macro, syntax, notation, axiom, sorry.
-/
import Derived.Test.YtnjfdnjakogpmaaChecked
import GoSem.Claim
import GoSem.ClaimJoined
import GoSem.ClaimMapViews
import Derived.JoinedTies
import Derived.KernelRfl
namespace Go.Proofs.Ytnjfdnjakogpmaa
/- THE CELL 'sum', in the pinned program and in every row, IS THE sha256 OF THE DUMP (.gsa) THAT YtnjfdnjakogpmaaProg.lean LOADS. Nothing in Lean hashes anything: it is a label: what it is worth is what the hold of that sum in a sandbox is worth. -/
noncomputable def Try.pinned : Pinned := { name := "ytnjfdnjakogpmaa", sum := "d3e2c4591619b1f7bcaf339e9275ad9e5e6dc987e0c0e3587fac1df816570002", checked := Try.checked }
namespace Rows
def none {H : Type} : Left H := { results := [], args := [] }

/-- 'laws.FnExactBookOk': WHATEVER THE INPUT: true; the input reads as it did. -/
def fnExactBookOkSpec : ChangeSpec := { name := "fnExactBookOk", fn := fun _ => fun
  | [d] => { results := [.lit (.bool true)], args := [d] }
  | _ => none }
def fnExactBookOkRow : OpenClaim := { program := "ytnjfdnjakogpmaa", sum := "d3e2c4591619b1f7bcaf339e9275ad9e5e6dc987e0c0e3587fac1df816570002", func := "loop.example/g00851/laws.FnExactBookOk", spec := "fnExactBookOk", apart := false }
def FnExactBookOkSaid : Prop := fnExactBookOkRow.holds Try.pinned (OpenSpec.ofChange fnExactBookOkSpec)

/-- ITS FALSE NEIGHBOUR: 'it returns false'. Refute it at one input. -/
def fnExactBookOkWrong : ChangeSpec := { name := "fnExactBookOk", fn := fun _ => fun
  | [d] => { results := [.lit (.bool false)], args := [d] }
  | _ => none }
def FnExactBookOkWrongFalsely : Prop := fnExactBookOkRow.holds Try.pinned (OpenSpec.ofChange fnExactBookOkWrong)

/-- 'laws.FnExactLastOf': WHATEVER THE INPUT: true; the input reads as it did. -/
def fnExactLastOfSpec : ChangeSpec := { name := "fnExactLastOf", fn := fun _ => fun
  | [d] => { results := [.lit (.bool true)], args := [d] }
  | _ => none }
def fnExactLastOfRow : OpenClaim := { program := "ytnjfdnjakogpmaa", sum := "d3e2c4591619b1f7bcaf339e9275ad9e5e6dc987e0c0e3587fac1df816570002", func := "loop.example/g00851/laws.FnExactLastOf", spec := "fnExactLastOf", apart := false }
def FnExactLastOfSaid : Prop := fnExactLastOfRow.holds Try.pinned (OpenSpec.ofChange fnExactLastOfSpec)

/-- ITS FALSE NEIGHBOUR: 'it returns false'. Refute it at one input. -/
def fnExactLastOfWrong : ChangeSpec := { name := "fnExactLastOf", fn := fun _ => fun
  | [d] => { results := [.lit (.bool false)], args := [d] }
  | _ => none }
def FnExactLastOfWrongFalsely : Prop := fnExactLastOfRow.holds Try.pinned (OpenSpec.ofChange fnExactLastOfWrong)

/-- 'laws.FnExactTimeOf': WHATEVER THE INPUT: true; the input reads as it did. -/
def fnExactTimeOfSpec : ChangeSpec := { name := "fnExactTimeOf", fn := fun _ => fun
  | [d] => { results := [.lit (.bool true)], args := [d] }
  | _ => none }
def fnExactTimeOfRow : OpenClaim := { program := "ytnjfdnjakogpmaa", sum := "d3e2c4591619b1f7bcaf339e9275ad9e5e6dc987e0c0e3587fac1df816570002", func := "loop.example/g00851/laws.FnExactTimeOf", spec := "fnExactTimeOf", apart := false }
def FnExactTimeOfSaid : Prop := fnExactTimeOfRow.holds Try.pinned (OpenSpec.ofChange fnExactTimeOfSpec)

/-- ITS FALSE NEIGHBOUR: 'it returns false'. Refute it at one input. -/
def fnExactTimeOfWrong : ChangeSpec := { name := "fnExactTimeOf", fn := fun _ => fun
  | [d] => { results := [.lit (.bool false)], args := [d] }
  | _ => none }
def FnExactTimeOfWrongFalsely : Prop := fnExactTimeOfRow.holds Try.pinned (OpenSpec.ofChange fnExactTimeOfWrong)

/-- 'laws.FnExactEntryAt': WHATEVER THE INPUT: true; the input reads as it did. -/
def fnExactEntryAtSpec : ChangeSpec := { name := "fnExactEntryAt", fn := fun _ => fun
  | [d1, d2] => { results := [.lit (.bool true)], args := [d1, d2] }
  | _ => none }
def fnExactEntryAtRow : OpenClaim := { program := "ytnjfdnjakogpmaa", sum := "d3e2c4591619b1f7bcaf339e9275ad9e5e6dc987e0c0e3587fac1df816570002", func := "loop.example/g00851/laws.FnExactEntryAt", spec := "fnExactEntryAt", unfollowed := true, recurses := true, apart := false }
def FnExactEntryAtSaid : Prop := fnExactEntryAtRow.holds Try.pinned (OpenSpec.ofChange fnExactEntryAtSpec)

/-- ITS FALSE NEIGHBOUR: 'it returns false'. Refute it at one input. -/
def fnExactEntryAtWrong : ChangeSpec := { name := "fnExactEntryAt", fn := fun _ => fun
  | [d1, d2] => { results := [.lit (.bool false)], args := [d1, d2] }
  | _ => none }
def FnExactEntryAtWrongFalsely : Prop := fnExactEntryAtRow.holds Try.pinned (OpenSpec.ofChange fnExactEntryAtWrong)

/-- 'laws.FnExactAppended': WHATEVER THE INPUT: true; the input reads as it did. -/
def fnExactAppendedSpec : ChangeSpec := { name := "fnExactAppended", fn := fun _ => fun
  | [d1, d2] => { results := [.lit (.bool true)], args := [d1, d2] }
  | _ => none }
def fnExactAppendedRow : OpenClaim := { program := "ytnjfdnjakogpmaa", sum := "d3e2c4591619b1f7bcaf339e9275ad9e5e6dc987e0c0e3587fac1df816570002", func := "loop.example/g00851/laws.FnExactAppended", spec := "fnExactAppended", unfollowed := true, recurses := true, apart := false }
def FnExactAppendedSaid : Prop := fnExactAppendedRow.holds Try.pinned (OpenSpec.ofChange fnExactAppendedSpec)

/-- ITS FALSE NEIGHBOUR: 'it returns false'. Refute it at one input. -/
def fnExactAppendedWrong : ChangeSpec := { name := "fnExactAppended", fn := fun _ => fun
  | [d1, d2] => { results := [.lit (.bool false)], args := [d1, d2] }
  | _ => none }
def FnExactAppendedWrongFalsely : Prop := fnExactAppendedRow.holds Try.pinned (OpenSpec.ofChange fnExactAppendedWrong)

/-- 'laws.FnExactGrown': WHATEVER THE INPUT: true; the input reads as it did. -/
def fnExactGrownSpec : ChangeSpec := { name := "fnExactGrown", fn := fun _ => fun
  | [d1, d2] => { results := [.lit (.bool true)], args := [d1, d2] }
  | _ => none }
def fnExactGrownRow : OpenClaim := { program := "ytnjfdnjakogpmaa", sum := "d3e2c4591619b1f7bcaf339e9275ad9e5e6dc987e0c0e3587fac1df816570002", func := "loop.example/g00851/laws.FnExactGrown", spec := "fnExactGrown", unfollowed := true, recurses := true, apart := false }
def FnExactGrownSaid : Prop := fnExactGrownRow.holds Try.pinned (OpenSpec.ofChange fnExactGrownSpec)

/-- ITS FALSE NEIGHBOUR: 'it returns false'. Refute it at one input. -/
def fnExactGrownWrong : ChangeSpec := { name := "fnExactGrown", fn := fun _ => fun
  | [d1, d2] => { results := [.lit (.bool false)], args := [d1, d2] }
  | _ => none }
def FnExactGrownWrongFalsely : Prop := fnExactGrownRow.holds Try.pinned (OpenSpec.ofChange fnExactGrownWrong)

/-- 'laws.FnExactTrimmedTo': WHATEVER THE INPUT: true; the input reads as it did. -/
def fnExactTrimmedToSpec : ChangeSpec := { name := "fnExactTrimmedTo", fn := fun _ => fun
  | [d1, d2] => { results := [.lit (.bool true)], args := [d1, d2] }
  | _ => none }
def fnExactTrimmedToRow : OpenClaim := { program := "ytnjfdnjakogpmaa", sum := "d3e2c4591619b1f7bcaf339e9275ad9e5e6dc987e0c0e3587fac1df816570002", func := "loop.example/g00851/laws.FnExactTrimmedTo", spec := "fnExactTrimmedTo", unfollowed := true, recurses := true, apart := false }
def FnExactTrimmedToSaid : Prop := fnExactTrimmedToRow.holds Try.pinned (OpenSpec.ofChange fnExactTrimmedToSpec)

/-- ITS FALSE NEIGHBOUR: 'it returns false'. Refute it at one input. -/
def fnExactTrimmedToWrong : ChangeSpec := { name := "fnExactTrimmedTo", fn := fun _ => fun
  | [d1, d2] => { results := [.lit (.bool false)], args := [d1, d2] }
  | _ => none }
def FnExactTrimmedToWrongFalsely : Prop := fnExactTrimmedToRow.holds Try.pinned (OpenSpec.ofChange fnExactTrimmedToWrong)

/-- 'laws.FnExactBackTo': WHATEVER THE INPUT: true; the input reads as it did. -/
def fnExactBackToSpec : ChangeSpec := { name := "fnExactBackTo", fn := fun _ => fun
  | [d1, d2] => { results := [.lit (.bool true)], args := [d1, d2] }
  | _ => none }
def fnExactBackToRow : OpenClaim := { program := "ytnjfdnjakogpmaa", sum := "d3e2c4591619b1f7bcaf339e9275ad9e5e6dc987e0c0e3587fac1df816570002", func := "loop.example/g00851/laws.FnExactBackTo", spec := "fnExactBackTo", unfollowed := true, recurses := true, apart := false }
def FnExactBackToSaid : Prop := fnExactBackToRow.holds Try.pinned (OpenSpec.ofChange fnExactBackToSpec)

/-- ITS FALSE NEIGHBOUR: 'it returns false'. Refute it at one input. -/
def fnExactBackToWrong : ChangeSpec := { name := "fnExactBackTo", fn := fun _ => fun
  | [d1, d2] => { results := [.lit (.bool false)], args := [d1, d2] }
  | _ => none }
def FnExactBackToWrongFalsely : Prop := fnExactBackToRow.holds Try.pinned (OpenSpec.ofChange fnExactBackToWrong)

/-- 'laws.FnExactPartOf': WHATEVER THE INPUT: true; the input reads as it did. -/
def fnExactPartOfSpec : ChangeSpec := { name := "fnExactPartOf", fn := fun _ => fun
  | [d1, d2, d3] => { results := [.lit (.bool true)], args := [d1, d2, d3] }
  | _ => none }
def fnExactPartOfRow : OpenClaim := { program := "ytnjfdnjakogpmaa", sum := "d3e2c4591619b1f7bcaf339e9275ad9e5e6dc987e0c0e3587fac1df816570002", func := "loop.example/g00851/laws.FnExactPartOf", spec := "fnExactPartOf", unfollowed := true, recurses := true, apart := false }
def FnExactPartOfSaid : Prop := fnExactPartOfRow.holds Try.pinned (OpenSpec.ofChange fnExactPartOfSpec)

/-- ITS FALSE NEIGHBOUR: 'it returns false'. Refute it at one input. -/
def fnExactPartOfWrong : ChangeSpec := { name := "fnExactPartOf", fn := fun _ => fun
  | [d1, d2, d3] => { results := [.lit (.bool false)], args := [d1, d2, d3] }
  | _ => none }
def FnExactPartOfWrongFalsely : Prop := fnExactPartOfRow.holds Try.pinned (OpenSpec.ofChange fnExactPartOfWrong)

/-- 'laws.FnExactSameBook': WHATEVER THE INPUT: true; the input reads as it did. -/
def fnExactSameBookSpec : ChangeSpec := { name := "fnExactSameBook", fn := fun _ => fun
  | [d1, d2] => { results := [.lit (.bool true)], args := [d1, d2] }
  | _ => none }
def fnExactSameBookRow : OpenClaim := { program := "ytnjfdnjakogpmaa", sum := "d3e2c4591619b1f7bcaf339e9275ad9e5e6dc987e0c0e3587fac1df816570002", func := "loop.example/g00851/laws.FnExactSameBook", spec := "fnExactSameBook", apart := false }
def FnExactSameBookSaid : Prop := fnExactSameBookRow.holds Try.pinned (OpenSpec.ofChange fnExactSameBookSpec)

/-- ITS FALSE NEIGHBOUR: 'it returns false'. Refute it at one input. -/
def fnExactSameBookWrong : ChangeSpec := { name := "fnExactSameBook", fn := fun _ => fun
  | [d1, d2] => { results := [.lit (.bool false)], args := [d1, d2] }
  | _ => none }
def FnExactSameBookWrongFalsely : Prop := fnExactSameBookRow.holds Try.pinned (OpenSpec.ofChange fnExactSameBookWrong)

/- THE SECOND FORM. 'bulk': how many values and letters a reading holds, each counted each time it is reached (what is shared counts as often as it is met; a slice's spare places count too). A statement '..UptoSaid' is the law's where the arguments, and the package variables that the reading takes, are together of bulk at most 1048576: NARROWER than '..Said'. Prove '..Said' where nothing that the law and all that it calls make is longer than what came in: it says more and counts as full. Else prove '..UptoSaid'. A law counts once. -/
mutual
def uptoBulk {H : Type} : DataW H → Nat
  | .lit (.string bytes) => bytes.length + 1
  | .lit _ => 1
  | .nil => 1
  | .ptr d => uptoBulk d + 1
  | .slice elems spare => uptoBulkAll elems + uptoBulkAll spare + 1
  | .agg parts => uptoBulkAll parts + 1
  | .iface _ d => uptoBulk d + 1
  | .map entries => uptoBulkEntries entries + 1
  | .held _ => 1
def uptoBulkAll {H : Type} : List (DataW H) → Nat
  | [] => 0
  | d :: r => uptoBulk d + uptoBulkAll r
def uptoBulkEntries {H : Type} : List (Lit × DataW H) → Nat
  | [] => 0
  | x :: r => uptoBulkEntry x + uptoBulkEntries r
def uptoBulkEntry {H : Type} : Lit × DataW H → Nat
  | (.string bytes, d) => bytes.length + uptoBulk d + 1
  | (_, d) => uptoBulk d + 1
 end
def uptoSmall : (H : Type) → List (DataW H) → Bool := fun _ ds => decide (uptoBulkAll ds ≤ 1048576)
def OpenSpec.upto (s : _root_.Go.ChangeSpec) : _root_.Go.OpenSpec := { _root_.Go.OpenSpec.ofChange s with cond := some uptoSmall }

/-- 'laws.FnExactBookOk', WHERE WHAT IT READS IS OF BULK AT MOST 1048576: true; the input reads as it did. -/
def fnExactBookOkUptoRow : OpenClaim := { program := "ytnjfdnjakogpmaa", sum := "d3e2c4591619b1f7bcaf339e9275ad9e5e6dc987e0c0e3587fac1df816570002", func := "loop.example/g00851/laws.FnExactBookOk", spec := "fnExactBookOk", apart := false, narrowed := true }
def FnExactBookOkUptoSaid : Prop := fnExactBookOkUptoRow.holds Try.pinned (OpenSpec.upto fnExactBookOkSpec)

/-- 'laws.FnExactLastOf', WHERE WHAT IT READS IS OF BULK AT MOST 1048576: true; the input reads as it did. -/
def fnExactLastOfUptoRow : OpenClaim := { program := "ytnjfdnjakogpmaa", sum := "d3e2c4591619b1f7bcaf339e9275ad9e5e6dc987e0c0e3587fac1df816570002", func := "loop.example/g00851/laws.FnExactLastOf", spec := "fnExactLastOf", apart := false, narrowed := true }
def FnExactLastOfUptoSaid : Prop := fnExactLastOfUptoRow.holds Try.pinned (OpenSpec.upto fnExactLastOfSpec)

/-- 'laws.FnExactTimeOf', WHERE WHAT IT READS IS OF BULK AT MOST 1048576: true; the input reads as it did. -/
def fnExactTimeOfUptoRow : OpenClaim := { program := "ytnjfdnjakogpmaa", sum := "d3e2c4591619b1f7bcaf339e9275ad9e5e6dc987e0c0e3587fac1df816570002", func := "loop.example/g00851/laws.FnExactTimeOf", spec := "fnExactTimeOf", apart := false, narrowed := true }
def FnExactTimeOfUptoSaid : Prop := fnExactTimeOfUptoRow.holds Try.pinned (OpenSpec.upto fnExactTimeOfSpec)

/-- 'laws.FnExactEntryAt', WHERE WHAT IT READS IS OF BULK AT MOST 1048576: true; the input reads as it did. -/
def fnExactEntryAtUptoRow : OpenClaim := { program := "ytnjfdnjakogpmaa", sum := "d3e2c4591619b1f7bcaf339e9275ad9e5e6dc987e0c0e3587fac1df816570002", func := "loop.example/g00851/laws.FnExactEntryAt", spec := "fnExactEntryAt", unfollowed := true, recurses := true, apart := false, narrowed := true }
def FnExactEntryAtUptoSaid : Prop := fnExactEntryAtUptoRow.holds Try.pinned (OpenSpec.upto fnExactEntryAtSpec)

/-- 'laws.FnExactAppended', WHERE WHAT IT READS IS OF BULK AT MOST 1048576: true; the input reads as it did. -/
def fnExactAppendedUptoRow : OpenClaim := { program := "ytnjfdnjakogpmaa", sum := "d3e2c4591619b1f7bcaf339e9275ad9e5e6dc987e0c0e3587fac1df816570002", func := "loop.example/g00851/laws.FnExactAppended", spec := "fnExactAppended", unfollowed := true, recurses := true, apart := false, narrowed := true }
def FnExactAppendedUptoSaid : Prop := fnExactAppendedUptoRow.holds Try.pinned (OpenSpec.upto fnExactAppendedSpec)

/-- 'laws.FnExactGrown', WHERE WHAT IT READS IS OF BULK AT MOST 1048576: true; the input reads as it did. -/
def fnExactGrownUptoRow : OpenClaim := { program := "ytnjfdnjakogpmaa", sum := "d3e2c4591619b1f7bcaf339e9275ad9e5e6dc987e0c0e3587fac1df816570002", func := "loop.example/g00851/laws.FnExactGrown", spec := "fnExactGrown", unfollowed := true, recurses := true, apart := false, narrowed := true }
def FnExactGrownUptoSaid : Prop := fnExactGrownUptoRow.holds Try.pinned (OpenSpec.upto fnExactGrownSpec)

/-- 'laws.FnExactTrimmedTo', WHERE WHAT IT READS IS OF BULK AT MOST 1048576: true; the input reads as it did. -/
def fnExactTrimmedToUptoRow : OpenClaim := { program := "ytnjfdnjakogpmaa", sum := "d3e2c4591619b1f7bcaf339e9275ad9e5e6dc987e0c0e3587fac1df816570002", func := "loop.example/g00851/laws.FnExactTrimmedTo", spec := "fnExactTrimmedTo", unfollowed := true, recurses := true, apart := false, narrowed := true }
def FnExactTrimmedToUptoSaid : Prop := fnExactTrimmedToUptoRow.holds Try.pinned (OpenSpec.upto fnExactTrimmedToSpec)

/-- 'laws.FnExactBackTo', WHERE WHAT IT READS IS OF BULK AT MOST 1048576: true; the input reads as it did. -/
def fnExactBackToUptoRow : OpenClaim := { program := "ytnjfdnjakogpmaa", sum := "d3e2c4591619b1f7bcaf339e9275ad9e5e6dc987e0c0e3587fac1df816570002", func := "loop.example/g00851/laws.FnExactBackTo", spec := "fnExactBackTo", unfollowed := true, recurses := true, apart := false, narrowed := true }
def FnExactBackToUptoSaid : Prop := fnExactBackToUptoRow.holds Try.pinned (OpenSpec.upto fnExactBackToSpec)

/-- 'laws.FnExactPartOf', WHERE WHAT IT READS IS OF BULK AT MOST 1048576: true; the input reads as it did. -/
def fnExactPartOfUptoRow : OpenClaim := { program := "ytnjfdnjakogpmaa", sum := "d3e2c4591619b1f7bcaf339e9275ad9e5e6dc987e0c0e3587fac1df816570002", func := "loop.example/g00851/laws.FnExactPartOf", spec := "fnExactPartOf", unfollowed := true, recurses := true, apart := false, narrowed := true }
def FnExactPartOfUptoSaid : Prop := fnExactPartOfUptoRow.holds Try.pinned (OpenSpec.upto fnExactPartOfSpec)

/-- 'laws.FnExactSameBook', WHERE WHAT IT READS IS OF BULK AT MOST 1048576: true; the input reads as it did. -/
def fnExactSameBookUptoRow : OpenClaim := { program := "ytnjfdnjakogpmaa", sum := "d3e2c4591619b1f7bcaf339e9275ad9e5e6dc987e0c0e3587fac1df816570002", func := "loop.example/g00851/laws.FnExactSameBook", spec := "fnExactSameBook", apart := false, narrowed := true }
def FnExactSameBookUptoSaid : Prop := fnExactSameBookUptoRow.holds Try.pinned (OpenSpec.upto fnExactSameBookSpec)

end Rows
end Go.Proofs.Ytnjfdnjakogpmaa

/-
  No cell of these rows narrows 'for every input' (looked for: loops, veiled, ifaces, maps, wideKeys, modest, calm, conditions, laid).
  DERIVED. THE GIVEN ROWS OF THIS SEAT. 7 by the template 'for every input the law returns true; each argument reads behind the call as it read before'; 0 by the template 'total and deterministic' (their statements: YtlhmolomefbklaaTotals.lean).
  GIVEN WITH THE SEED: the statements are not yours to turn. If you find one false, say at which input.
  Laid BY PROGRAM, IN A SANDBOX (cutbox-rows.mjs): the forced cells as the released guide's own fill.sh prints them over the translation 7539cd9e3af0d366… (all of the seat's roots in one cut). By AI agents, Wed Nov 11 2026. No macro, syntax, notation, axiom, sorry.
-/
import Derived.Test.YtlhmolomefbklaaChecked
import GoSem.Claim
import GoSem.ClaimJoined
import GoSem.ClaimMapViews
import Derived.JoinedTies
import Derived.KernelRfl
namespace Go.Proofs.Ytlhmolomefbklaa
/- THE CELL 'sum', in the pinned program and in every row, IS THE sha256 OF THE DUMP (.gsa) THAT YtlhmolomefbklaaProg.lean LOADS. Nothing in Lean hashes anything: it is a label: what it is worth is what the hold of that sum in a sandbox is worth. -/
noncomputable def Try.pinned : Pinned := { name := "ytlhmolomefbklaa", sum := "7539cd9e3af0d366a2448ee207cd37be7197b6b46b20de2be0e8888090d13cd6", checked := Try.checked }
namespace Rows
def none {H : Type} : Left H := { results := [], args := [] }

/-- 'laws.FnExactSeenOk': WHATEVER THE INPUT: true; the input reads as it did. -/
def fnExactSeenOkSpec : ChangeSpec := { name := "fnExactSeenOk", fn := fun _ => fun
  | [d] => { results := [.lit (.bool true)], args := [d] }
  | _ => none }
def fnExactSeenOkRow : OpenClaim := { program := "ytlhmolomefbklaa", sum := "7539cd9e3af0d366a2448ee207cd37be7197b6b46b20de2be0e8888090d13cd6", func := "loop.example/g00851/laws.FnExactSeenOk", spec := "fnExactSeenOk", apart := false }
def FnExactSeenOkSaid : Prop := fnExactSeenOkRow.holds Try.pinned (OpenSpec.ofChange fnExactSeenOkSpec)

/-- ITS FALSE NEIGHBOUR: 'it returns false'. Refute it at one input. -/
def fnExactSeenOkWrong : ChangeSpec := { name := "fnExactSeenOk", fn := fun _ => fun
  | [d] => { results := [.lit (.bool false)], args := [d] }
  | _ => none }
def FnExactSeenOkWrongFalsely : Prop := fnExactSeenOkRow.holds Try.pinned (OpenSpec.ofChange fnExactSeenOkWrong)

/-- 'laws.FnExactMarkOf': WHATEVER THE INPUT: true; the input reads as it did. -/
def fnExactMarkOfSpec : ChangeSpec := { name := "fnExactMarkOf", fn := fun _ => fun
  | [d1, d2] => { results := [.lit (.bool true)], args := [d1, d2] }
  | _ => none }
def fnExactMarkOfRow : OpenClaim := { program := "ytlhmolomefbklaa", sum := "7539cd9e3af0d366a2448ee207cd37be7197b6b46b20de2be0e8888090d13cd6", func := "loop.example/g00851/laws.FnExactMarkOf", spec := "fnExactMarkOf", apart := false }
def FnExactMarkOfSaid : Prop := fnExactMarkOfRow.holds Try.pinned (OpenSpec.ofChange fnExactMarkOfSpec)

/-- ITS FALSE NEIGHBOUR: 'it returns false'. Refute it at one input. -/
def fnExactMarkOfWrong : ChangeSpec := { name := "fnExactMarkOf", fn := fun _ => fun
  | [d1, d2] => { results := [.lit (.bool false)], args := [d1, d2] }
  | _ => none }
def FnExactMarkOfWrongFalsely : Prop := fnExactMarkOfRow.holds Try.pinned (OpenSpec.ofChange fnExactMarkOfWrong)

/-- 'laws.FnExactFreshIn': WHATEVER THE INPUT: true; the input reads as it did. -/
def fnExactFreshInSpec : ChangeSpec := { name := "fnExactFreshIn", fn := fun _ => fun
  | [d1, d2, d3] => { results := [.lit (.bool true)], args := [d1, d2, d3] }
  | _ => none }
def fnExactFreshInRow : OpenClaim := { program := "ytlhmolomefbklaa", sum := "7539cd9e3af0d366a2448ee207cd37be7197b6b46b20de2be0e8888090d13cd6", func := "loop.example/g00851/laws.FnExactFreshIn", spec := "fnExactFreshIn", apart := false }
def FnExactFreshInSaid : Prop := fnExactFreshInRow.holds Try.pinned (OpenSpec.ofChange fnExactFreshInSpec)

/-- ITS FALSE NEIGHBOUR: 'it returns false'. Refute it at one input. -/
def fnExactFreshInWrong : ChangeSpec := { name := "fnExactFreshIn", fn := fun _ => fun
  | [d1, d2, d3] => { results := [.lit (.bool false)], args := [d1, d2, d3] }
  | _ => none }
def FnExactFreshInWrongFalsely : Prop := fnExactFreshInRow.holds Try.pinned (OpenSpec.ofChange fnExactFreshInWrong)

/-- 'laws.FnExactMarked': WHATEVER THE INPUT: true; the input reads as it did. -/
def fnExactMarkedSpec : ChangeSpec := { name := "fnExactMarked", fn := fun _ => fun
  | [d1, d2] => { results := [.lit (.bool true)], args := [d1, d2] }
  | _ => none }
def fnExactMarkedRow : OpenClaim := { program := "ytlhmolomefbklaa", sum := "7539cd9e3af0d366a2448ee207cd37be7197b6b46b20de2be0e8888090d13cd6", func := "loop.example/g00851/laws.FnExactMarked", spec := "fnExactMarked", unfollowed := true, recurses := true, apart := false }
def FnExactMarkedSaid : Prop := fnExactMarkedRow.holds Try.pinned (OpenSpec.ofChange fnExactMarkedSpec)

/-- ITS FALSE NEIGHBOUR: 'it returns false'. Refute it at one input. -/
def fnExactMarkedWrong : ChangeSpec := { name := "fnExactMarked", fn := fun _ => fun
  | [d1, d2] => { results := [.lit (.bool false)], args := [d1, d2] }
  | _ => none }
def FnExactMarkedWrongFalsely : Prop := fnExactMarkedRow.holds Try.pinned (OpenSpec.ofChange fnExactMarkedWrong)

/-- 'laws.FnExactSeenOver': WHATEVER THE INPUT: true; the input reads as it did. -/
def fnExactSeenOverSpec : ChangeSpec := { name := "fnExactSeenOver", fn := fun _ => fun
  | [d1, d2] => { results := [.lit (.bool true)], args := [d1, d2] }
  | _ => none }
def fnExactSeenOverRow : OpenClaim := { program := "ytlhmolomefbklaa", sum := "7539cd9e3af0d366a2448ee207cd37be7197b6b46b20de2be0e8888090d13cd6", func := "loop.example/g00851/laws.FnExactSeenOver", spec := "fnExactSeenOver", unfollowed := true, recurses := true, apart := false }
def FnExactSeenOverSaid : Prop := fnExactSeenOverRow.holds Try.pinned (OpenSpec.ofChange fnExactSeenOverSpec)

/-- ITS FALSE NEIGHBOUR: 'it returns false'. Refute it at one input. -/
def fnExactSeenOverWrong : ChangeSpec := { name := "fnExactSeenOver", fn := fun _ => fun
  | [d1, d2] => { results := [.lit (.bool false)], args := [d1, d2] }
  | _ => none }
def FnExactSeenOverWrongFalsely : Prop := fnExactSeenOverRow.holds Try.pinned (OpenSpec.ofChange fnExactSeenOverWrong)

/-- 'laws.FnExactLastSeen': WHATEVER THE INPUT: true; the input reads as it did. -/
def fnExactLastSeenSpec : ChangeSpec := { name := "fnExactLastSeen", fn := fun _ => fun
  | [d] => { results := [.lit (.bool true)], args := [d] }
  | _ => none }
def fnExactLastSeenRow : OpenClaim := { program := "ytlhmolomefbklaa", sum := "7539cd9e3af0d366a2448ee207cd37be7197b6b46b20de2be0e8888090d13cd6", func := "loop.example/g00851/laws.FnExactLastSeen", spec := "fnExactLastSeen", apart := false }
def FnExactLastSeenSaid : Prop := fnExactLastSeenRow.holds Try.pinned (OpenSpec.ofChange fnExactLastSeenSpec)

/-- ITS FALSE NEIGHBOUR: 'it returns false'. Refute it at one input. -/
def fnExactLastSeenWrong : ChangeSpec := { name := "fnExactLastSeen", fn := fun _ => fun
  | [d] => { results := [.lit (.bool false)], args := [d] }
  | _ => none }
def FnExactLastSeenWrongFalsely : Prop := fnExactLastSeenRow.holds Try.pinned (OpenSpec.ofChange fnExactLastSeenWrong)

/-- 'laws.FnExactSameSeen': WHATEVER THE INPUT: true; the input reads as it did. -/
def fnExactSameSeenSpec : ChangeSpec := { name := "fnExactSameSeen", fn := fun _ => fun
  | [d1, d2] => { results := [.lit (.bool true)], args := [d1, d2] }
  | _ => none }
def fnExactSameSeenRow : OpenClaim := { program := "ytlhmolomefbklaa", sum := "7539cd9e3af0d366a2448ee207cd37be7197b6b46b20de2be0e8888090d13cd6", func := "loop.example/g00851/laws.FnExactSameSeen", spec := "fnExactSameSeen", apart := false }
def FnExactSameSeenSaid : Prop := fnExactSameSeenRow.holds Try.pinned (OpenSpec.ofChange fnExactSameSeenSpec)

/-- ITS FALSE NEIGHBOUR: 'it returns false'. Refute it at one input. -/
def fnExactSameSeenWrong : ChangeSpec := { name := "fnExactSameSeen", fn := fun _ => fun
  | [d1, d2] => { results := [.lit (.bool false)], args := [d1, d2] }
  | _ => none }
def FnExactSameSeenWrongFalsely : Prop := fnExactSameSeenRow.holds Try.pinned (OpenSpec.ofChange fnExactSameSeenWrong)

/- THE SECOND FORM. 'bulk': how many values and letters a reading holds, each counted each time it is reached (what is shared counts as often as it is met; a slice's spare places count too). A statement '..UptoSaid' is the law's where the arguments, and the package variables that the reading takes, are together of bulk at most 1048576: NARROWER than '..Said'. Prove '..Said' where nothing that the law and all that it calls make is longer than what came in: it says more and counts as full. Else prove '..UptoSaid'. A law counts once. -/
mutual
def uptoBulk {H : Type} : DataW H → Nat
  | .lit (.string bytes) => bytes.length + 1
  | .lit _ => 1
  | .nil => 1
  | .ptr d => uptoBulk d + 1
  | .slice elems spare => uptoBulkAll elems + uptoBulkAll spare + 1
  | .agg parts => uptoBulkAll parts + 1
  | .iface _ d => uptoBulk d + 1
  | .map entries => uptoBulkEntries entries + 1
  | .held _ => 1
def uptoBulkAll {H : Type} : List (DataW H) → Nat
  | [] => 0
  | d :: r => uptoBulk d + uptoBulkAll r
def uptoBulkEntries {H : Type} : List (Lit × DataW H) → Nat
  | [] => 0
  | x :: r => uptoBulkEntry x + uptoBulkEntries r
def uptoBulkEntry {H : Type} : Lit × DataW H → Nat
  | (.string bytes, d) => bytes.length + uptoBulk d + 1
  | (_, d) => uptoBulk d + 1
 end
def uptoSmall : (H : Type) → List (DataW H) → Bool := fun _ ds => decide (uptoBulkAll ds ≤ 1048576)
def OpenSpec.upto (s : _root_.Go.ChangeSpec) : _root_.Go.OpenSpec := { _root_.Go.OpenSpec.ofChange s with cond := some uptoSmall }

/-- 'laws.FnExactSeenOk', WHERE WHAT IT READS IS OF BULK AT MOST 1048576: true; the input reads as it did. -/
def fnExactSeenOkUptoRow : OpenClaim := { program := "ytlhmolomefbklaa", sum := "7539cd9e3af0d366a2448ee207cd37be7197b6b46b20de2be0e8888090d13cd6", func := "loop.example/g00851/laws.FnExactSeenOk", spec := "fnExactSeenOk", apart := false, narrowed := true }
def FnExactSeenOkUptoSaid : Prop := fnExactSeenOkUptoRow.holds Try.pinned (OpenSpec.upto fnExactSeenOkSpec)

/-- 'laws.FnExactMarkOf', WHERE WHAT IT READS IS OF BULK AT MOST 1048576: true; the input reads as it did. -/
def fnExactMarkOfUptoRow : OpenClaim := { program := "ytlhmolomefbklaa", sum := "7539cd9e3af0d366a2448ee207cd37be7197b6b46b20de2be0e8888090d13cd6", func := "loop.example/g00851/laws.FnExactMarkOf", spec := "fnExactMarkOf", apart := false, narrowed := true }
def FnExactMarkOfUptoSaid : Prop := fnExactMarkOfUptoRow.holds Try.pinned (OpenSpec.upto fnExactMarkOfSpec)

/-- 'laws.FnExactFreshIn', WHERE WHAT IT READS IS OF BULK AT MOST 1048576: true; the input reads as it did. -/
def fnExactFreshInUptoRow : OpenClaim := { program := "ytlhmolomefbklaa", sum := "7539cd9e3af0d366a2448ee207cd37be7197b6b46b20de2be0e8888090d13cd6", func := "loop.example/g00851/laws.FnExactFreshIn", spec := "fnExactFreshIn", apart := false, narrowed := true }
def FnExactFreshInUptoSaid : Prop := fnExactFreshInUptoRow.holds Try.pinned (OpenSpec.upto fnExactFreshInSpec)

/-- 'laws.FnExactMarked', WHERE WHAT IT READS IS OF BULK AT MOST 1048576: true; the input reads as it did. -/
def fnExactMarkedUptoRow : OpenClaim := { program := "ytlhmolomefbklaa", sum := "7539cd9e3af0d366a2448ee207cd37be7197b6b46b20de2be0e8888090d13cd6", func := "loop.example/g00851/laws.FnExactMarked", spec := "fnExactMarked", unfollowed := true, recurses := true, apart := false, narrowed := true }
def FnExactMarkedUptoSaid : Prop := fnExactMarkedUptoRow.holds Try.pinned (OpenSpec.upto fnExactMarkedSpec)

/-- 'laws.FnExactSeenOver', WHERE WHAT IT READS IS OF BULK AT MOST 1048576: true; the input reads as it did. -/
def fnExactSeenOverUptoRow : OpenClaim := { program := "ytlhmolomefbklaa", sum := "7539cd9e3af0d366a2448ee207cd37be7197b6b46b20de2be0e8888090d13cd6", func := "loop.example/g00851/laws.FnExactSeenOver", spec := "fnExactSeenOver", unfollowed := true, recurses := true, apart := false, narrowed := true }
def FnExactSeenOverUptoSaid : Prop := fnExactSeenOverUptoRow.holds Try.pinned (OpenSpec.upto fnExactSeenOverSpec)

/-- 'laws.FnExactLastSeen', WHERE WHAT IT READS IS OF BULK AT MOST 1048576: true; the input reads as it did. -/
def fnExactLastSeenUptoRow : OpenClaim := { program := "ytlhmolomefbklaa", sum := "7539cd9e3af0d366a2448ee207cd37be7197b6b46b20de2be0e8888090d13cd6", func := "loop.example/g00851/laws.FnExactLastSeen", spec := "fnExactLastSeen", apart := false, narrowed := true }
def FnExactLastSeenUptoSaid : Prop := fnExactLastSeenUptoRow.holds Try.pinned (OpenSpec.upto fnExactLastSeenSpec)

/-- 'laws.FnExactSameSeen', WHERE WHAT IT READS IS OF BULK AT MOST 1048576: true; the input reads as it did. -/
def fnExactSameSeenUptoRow : OpenClaim := { program := "ytlhmolomefbklaa", sum := "7539cd9e3af0d366a2448ee207cd37be7197b6b46b20de2be0e8888090d13cd6", func := "loop.example/g00851/laws.FnExactSameSeen", spec := "fnExactSameSeen", apart := false, narrowed := true }
def FnExactSameSeenUptoSaid : Prop := fnExactSameSeenUptoRow.holds Try.pinned (OpenSpec.upto fnExactSameSeenSpec)

end Rows
end Go.Proofs.Ytlhmolomefbklaa

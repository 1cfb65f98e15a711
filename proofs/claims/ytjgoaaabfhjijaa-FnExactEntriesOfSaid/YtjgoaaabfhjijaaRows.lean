/-
  No cell of these rows narrows 'for every input' (looked for: loops, veiled, ifaces, maps, wideKeys, modest, calm, conditions, laid).
  DERIVED. THE GIVEN ROWS OF THIS SEAT. 10 by the template 'for every input the law returns true; each argument reads behind the call as it read before'; 0 by the template 'total and deterministic' (their statements: YtjgoaaabfhjijaaTotals.lean).
  GIVEN WITH THE SEED: the statements are not yours to turn. If you find one false, say at which input.
  Laid BY PROGRAM, IN A SANDBOX (cutbox-rows.mjs): the forced cells as the released guide's own fill.sh prints them over the translation 4010f5702f6c81b1… (all of the seat's roots in one cut). By AI agents, Wed Nov 11 2026. No macro, syntax, notation, axiom, sorry.
-/
import Derived.Test.YtjgoaaabfhjijaaChecked
import GoSem.Claim
import GoSem.ClaimJoined
import GoSem.ClaimMapViews
import Derived.JoinedTies
import Derived.KernelRfl
namespace Go.Proofs.Ytjgoaaabfhjijaa
/- THE CELL 'sum', in the pinned program and in every row, IS THE sha256 OF THE DUMP (.gsa) THAT YtjgoaaabfhjijaaProg.lean LOADS. Nothing in Lean hashes anything: it is a label: what it is worth is what the hold of that sum in a sandbox is worth. -/
noncomputable def Try.pinned : Pinned := { name := "ytjgoaaabfhjijaa", sum := "4010f5702f6c81b191efca1eb46d6190557b8d519d267d29837dba4e78d68891", checked := Try.checked }
namespace Rows
def none {H : Type} : Left H := { results := [], args := [] }

/-- 'laws.FnExactOpOk': WHATEVER THE INPUT: true; the input reads as it did. -/
def fnExactOpOkSpec : ChangeSpec := { name := "fnExactOpOk", fn := fun _ => fun
  | [d] => { results := [.lit (.bool true)], args := [d] }
  | _ => none }
def fnExactOpOkRow : OpenClaim := { program := "ytjgoaaabfhjijaa", sum := "4010f5702f6c81b191efca1eb46d6190557b8d519d267d29837dba4e78d68891", func := "loop.example/g00851/laws.FnExactOpOk", spec := "fnExactOpOk", apart := false }
def FnExactOpOkSaid : Prop := fnExactOpOkRow.holds Try.pinned (OpenSpec.ofChange fnExactOpOkSpec)

/-- ITS FALSE NEIGHBOUR: 'it returns false'. Refute it at one input. -/
def fnExactOpOkWrong : ChangeSpec := { name := "fnExactOpOk", fn := fun _ => fun
  | [d] => { results := [.lit (.bool false)], args := [d] }
  | _ => none }
def FnExactOpOkWrongFalsely : Prop := fnExactOpOkRow.holds Try.pinned (OpenSpec.ofChange fnExactOpOkWrong)

/-- 'laws.FnExactOpRow': WHATEVER THE INPUT: true; the input reads as it did. -/
def fnExactOpRowSpec : ChangeSpec := { name := "fnExactOpRow", fn := fun _ => fun
  | [d] => { results := [.lit (.bool true)], args := [d] }
  | _ => none }
def fnExactOpRowRow : OpenClaim := { program := "ytjgoaaabfhjijaa", sum := "4010f5702f6c81b191efca1eb46d6190557b8d519d267d29837dba4e78d68891", func := "loop.example/g00851/laws.FnExactOpRow", spec := "fnExactOpRow", apart := false }
def FnExactOpRowSaid : Prop := fnExactOpRowRow.holds Try.pinned (OpenSpec.ofChange fnExactOpRowSpec)

/-- ITS FALSE NEIGHBOUR: 'it returns false'. Refute it at one input. -/
def fnExactOpRowWrong : ChangeSpec := { name := "fnExactOpRow", fn := fun _ => fun
  | [d] => { results := [.lit (.bool false)], args := [d] }
  | _ => none }
def FnExactOpRowWrongFalsely : Prop := fnExactOpRowRow.holds Try.pinned (OpenSpec.ofChange fnExactOpRowWrong)

/-- 'laws.FnExactRowOp': WHATEVER THE INPUT: true; the input reads as it did. -/
def fnExactRowOpSpec : ChangeSpec := { name := "fnExactRowOp", fn := fun _ => fun
  | [d] => { results := [.lit (.bool true)], args := [d] }
  | _ => none }
def fnExactRowOpRow : OpenClaim := { program := "ytjgoaaabfhjijaa", sum := "4010f5702f6c81b191efca1eb46d6190557b8d519d267d29837dba4e78d68891", func := "loop.example/g00851/laws.FnExactRowOp", spec := "fnExactRowOp", apart := false }
def FnExactRowOpSaid : Prop := fnExactRowOpRow.holds Try.pinned (OpenSpec.ofChange fnExactRowOpSpec)

/-- ITS FALSE NEIGHBOUR: 'it returns false'. Refute it at one input. -/
def fnExactRowOpWrong : ChangeSpec := { name := "fnExactRowOp", fn := fun _ => fun
  | [d] => { results := [.lit (.bool false)], args := [d] }
  | _ => none }
def FnExactRowOpWrongFalsely : Prop := fnExactRowOpRow.holds Try.pinned (OpenSpec.ofChange fnExactRowOpWrong)

/-- 'laws.FnExactOpWord': WHATEVER THE INPUT: true; the input reads as it did. -/
def fnExactOpWordSpec : ChangeSpec := { name := "fnExactOpWord", fn := fun _ => fun
  | [d] => { results := [.lit (.bool true)], args := [d] }
  | _ => none }
def fnExactOpWordRow : OpenClaim := { program := "ytjgoaaabfhjijaa", sum := "4010f5702f6c81b191efca1eb46d6190557b8d519d267d29837dba4e78d68891", func := "loop.example/g00851/laws.FnExactOpWord", spec := "fnExactOpWord", apart := false }
def FnExactOpWordSaid : Prop := fnExactOpWordRow.holds Try.pinned (OpenSpec.ofChange fnExactOpWordSpec)

/-- ITS FALSE NEIGHBOUR: 'it returns false'. Refute it at one input. -/
def fnExactOpWordWrong : ChangeSpec := { name := "fnExactOpWord", fn := fun _ => fun
  | [d] => { results := [.lit (.bool false)], args := [d] }
  | _ => none }
def FnExactOpWordWrongFalsely : Prop := fnExactOpWordRow.holds Try.pinned (OpenSpec.ofChange fnExactOpWordWrong)

/-- 'laws.FnExactAskerOk': WHATEVER THE INPUT: true; the input reads as it did. -/
def fnExactAskerOkSpec : ChangeSpec := { name := "fnExactAskerOk", fn := fun _ => fun
  | [d] => { results := [.lit (.bool true)], args := [d] }
  | _ => none }
def fnExactAskerOkRow : OpenClaim := { program := "ytjgoaaabfhjijaa", sum := "4010f5702f6c81b191efca1eb46d6190557b8d519d267d29837dba4e78d68891", func := "loop.example/g00851/laws.FnExactAskerOk", spec := "fnExactAskerOk", apart := false }
def FnExactAskerOkSaid : Prop := fnExactAskerOkRow.holds Try.pinned (OpenSpec.ofChange fnExactAskerOkSpec)

/-- ITS FALSE NEIGHBOUR: 'it returns false'. Refute it at one input. -/
def fnExactAskerOkWrong : ChangeSpec := { name := "fnExactAskerOk", fn := fun _ => fun
  | [d] => { results := [.lit (.bool false)], args := [d] }
  | _ => none }
def FnExactAskerOkWrongFalsely : Prop := fnExactAskerOkRow.holds Try.pinned (OpenSpec.ofChange fnExactAskerOkWrong)

/-- 'laws.FnExactEntryOk': WHATEVER THE INPUT: true; the input reads as it did. -/
def fnExactEntryOkSpec : ChangeSpec := { name := "fnExactEntryOk", fn := fun _ => fun
  | [d] => { results := [.lit (.bool true)], args := [d] }
  | _ => none }
def fnExactEntryOkRow : OpenClaim := { program := "ytjgoaaabfhjijaa", sum := "4010f5702f6c81b191efca1eb46d6190557b8d519d267d29837dba4e78d68891", func := "loop.example/g00851/laws.FnExactEntryOk", spec := "fnExactEntryOk", apart := false }
def FnExactEntryOkSaid : Prop := fnExactEntryOkRow.holds Try.pinned (OpenSpec.ofChange fnExactEntryOkSpec)

/-- ITS FALSE NEIGHBOUR: 'it returns false'. Refute it at one input. -/
def fnExactEntryOkWrong : ChangeSpec := { name := "fnExactEntryOk", fn := fun _ => fun
  | [d] => { results := [.lit (.bool false)], args := [d] }
  | _ => none }
def FnExactEntryOkWrongFalsely : Prop := fnExactEntryOkRow.holds Try.pinned (OpenSpec.ofChange fnExactEntryOkWrong)

/-- 'laws.FnExactEntryRow': WHATEVER THE INPUT: true; the input reads as it did. -/
def fnExactEntryRowSpec : ChangeSpec := { name := "fnExactEntryRow", fn := fun _ => fun
  | [d] => { results := [.lit (.bool true)], args := [d] }
  | _ => none }
def fnExactEntryRowRow : OpenClaim := { program := "ytjgoaaabfhjijaa", sum := "4010f5702f6c81b191efca1eb46d6190557b8d519d267d29837dba4e78d68891", func := "loop.example/g00851/laws.FnExactEntryRow", spec := "fnExactEntryRow", apart := false }
def FnExactEntryRowSaid : Prop := fnExactEntryRowRow.holds Try.pinned (OpenSpec.ofChange fnExactEntryRowSpec)

/-- ITS FALSE NEIGHBOUR: 'it returns false'. Refute it at one input. -/
def fnExactEntryRowWrong : ChangeSpec := { name := "fnExactEntryRow", fn := fun _ => fun
  | [d] => { results := [.lit (.bool false)], args := [d] }
  | _ => none }
def FnExactEntryRowWrongFalsely : Prop := fnExactEntryRowRow.holds Try.pinned (OpenSpec.ofChange fnExactEntryRowWrong)

/-- 'laws.FnExactRowEntry': WHATEVER THE INPUT: true; the input reads as it did. -/
def fnExactRowEntrySpec : ChangeSpec := { name := "fnExactRowEntry", fn := fun _ => fun
  | [d] => { results := [.lit (.bool true)], args := [d] }
  | _ => none }
def fnExactRowEntryRow : OpenClaim := { program := "ytjgoaaabfhjijaa", sum := "4010f5702f6c81b191efca1eb46d6190557b8d519d267d29837dba4e78d68891", func := "loop.example/g00851/laws.FnExactRowEntry", spec := "fnExactRowEntry", apart := false }
def FnExactRowEntrySaid : Prop := fnExactRowEntryRow.holds Try.pinned (OpenSpec.ofChange fnExactRowEntrySpec)

/-- ITS FALSE NEIGHBOUR: 'it returns false'. Refute it at one input. -/
def fnExactRowEntryWrong : ChangeSpec := { name := "fnExactRowEntry", fn := fun _ => fun
  | [d] => { results := [.lit (.bool false)], args := [d] }
  | _ => none }
def FnExactRowEntryWrongFalsely : Prop := fnExactRowEntryRow.holds Try.pinned (OpenSpec.ofChange fnExactRowEntryWrong)

/-- 'laws.FnExactEntriesOk': WHATEVER THE INPUT: true; the input reads as it did. -/
def fnExactEntriesOkSpec : ChangeSpec := { name := "fnExactEntriesOk", fn := fun _ => fun
  | [d] => { results := [.lit (.bool true)], args := [d] }
  | _ => none }
def fnExactEntriesOkRow : OpenClaim := { program := "ytjgoaaabfhjijaa", sum := "4010f5702f6c81b191efca1eb46d6190557b8d519d267d29837dba4e78d68891", func := "loop.example/g00851/laws.FnExactEntriesOk", spec := "fnExactEntriesOk", apart := false }
def FnExactEntriesOkSaid : Prop := fnExactEntriesOkRow.holds Try.pinned (OpenSpec.ofChange fnExactEntriesOkSpec)

/-- ITS FALSE NEIGHBOUR: 'it returns false'. Refute it at one input. -/
def fnExactEntriesOkWrong : ChangeSpec := { name := "fnExactEntriesOk", fn := fun _ => fun
  | [d] => { results := [.lit (.bool false)], args := [d] }
  | _ => none }
def FnExactEntriesOkWrongFalsely : Prop := fnExactEntriesOkRow.holds Try.pinned (OpenSpec.ofChange fnExactEntriesOkWrong)

/-- 'laws.FnExactEntriesOf': WHATEVER THE INPUT: true; the input reads as it did. -/
def fnExactEntriesOfSpec : ChangeSpec := { name := "fnExactEntriesOf", fn := fun _ => fun
  | [d1, d2] => { results := [.lit (.bool true)], args := [d1, d2] }
  | _ => none }
def fnExactEntriesOfRow : OpenClaim := { program := "ytjgoaaabfhjijaa", sum := "4010f5702f6c81b191efca1eb46d6190557b8d519d267d29837dba4e78d68891", func := "loop.example/g00851/laws.FnExactEntriesOf", spec := "fnExactEntriesOf", apart := false }
def FnExactEntriesOfSaid : Prop := fnExactEntriesOfRow.holds Try.pinned (OpenSpec.ofChange fnExactEntriesOfSpec)

/-- ITS FALSE NEIGHBOUR: 'it returns false'. Refute it at one input. -/
def fnExactEntriesOfWrong : ChangeSpec := { name := "fnExactEntriesOf", fn := fun _ => fun
  | [d1, d2] => { results := [.lit (.bool false)], args := [d1, d2] }
  | _ => none }
def FnExactEntriesOfWrongFalsely : Prop := fnExactEntriesOfRow.holds Try.pinned (OpenSpec.ofChange fnExactEntriesOfWrong)

/- THE SECOND FORM. 'bulk': how many values and letters a reading holds, each counted each time it is reached (what is shared counts as often as it is met; a slice's spare places count too). A statement '..UptoSaid' is the law's where the arguments, and the package variables that the reading takes, are together of bulk at most 1048576: NARROWER than '..Said'. Prove '..Said' where nothing that the law and all that it calls make is longer than what came in: it says more and counts as full. Else prove '..UptoSaid'. A law counts once. -/
mutual
def uptoBulk {H : Type} : DataW H → Nat
  | .lit (.string bytes) => bytes.length + 1
  | .lit _ => 1
  | .nil => 1
  | .ptr d => uptoBulk d + 1
  | .slice elems spare => uptoBulkAll elems + uptoBulkAll spare + 1
  | .agg parts => uptoBulkAll parts + 1
  | .iface _ d => uptoBulk d + 1
  | .map entries => uptoBulkEntries entries + 1
  | .held _ => 1
def uptoBulkAll {H : Type} : List (DataW H) → Nat
  | [] => 0
  | d :: r => uptoBulk d + uptoBulkAll r
def uptoBulkEntries {H : Type} : List (Lit × DataW H) → Nat
  | [] => 0
  | x :: r => uptoBulkEntry x + uptoBulkEntries r
def uptoBulkEntry {H : Type} : Lit × DataW H → Nat
  | (.string bytes, d) => bytes.length + uptoBulk d + 1
  | (_, d) => uptoBulk d + 1
 end
def uptoSmall : (H : Type) → List (DataW H) → Bool := fun _ ds => decide (uptoBulkAll ds ≤ 1048576)
def OpenSpec.upto (s : _root_.Go.ChangeSpec) : _root_.Go.OpenSpec := { _root_.Go.OpenSpec.ofChange s with cond := some uptoSmall }

/-- 'laws.FnExactOpOk', WHERE WHAT IT READS IS OF BULK AT MOST 1048576: true; the input reads as it did. -/
def fnExactOpOkUptoRow : OpenClaim := { program := "ytjgoaaabfhjijaa", sum := "4010f5702f6c81b191efca1eb46d6190557b8d519d267d29837dba4e78d68891", func := "loop.example/g00851/laws.FnExactOpOk", spec := "fnExactOpOk", apart := false, narrowed := true }
def FnExactOpOkUptoSaid : Prop := fnExactOpOkUptoRow.holds Try.pinned (OpenSpec.upto fnExactOpOkSpec)

/-- 'laws.FnExactOpRow', WHERE WHAT IT READS IS OF BULK AT MOST 1048576: true; the input reads as it did. -/
def fnExactOpRowUptoRow : OpenClaim := { program := "ytjgoaaabfhjijaa", sum := "4010f5702f6c81b191efca1eb46d6190557b8d519d267d29837dba4e78d68891", func := "loop.example/g00851/laws.FnExactOpRow", spec := "fnExactOpRow", apart := false, narrowed := true }
def FnExactOpRowUptoSaid : Prop := fnExactOpRowUptoRow.holds Try.pinned (OpenSpec.upto fnExactOpRowSpec)

/-- 'laws.FnExactRowOp', WHERE WHAT IT READS IS OF BULK AT MOST 1048576: true; the input reads as it did. -/
def fnExactRowOpUptoRow : OpenClaim := { program := "ytjgoaaabfhjijaa", sum := "4010f5702f6c81b191efca1eb46d6190557b8d519d267d29837dba4e78d68891", func := "loop.example/g00851/laws.FnExactRowOp", spec := "fnExactRowOp", apart := false, narrowed := true }
def FnExactRowOpUptoSaid : Prop := fnExactRowOpUptoRow.holds Try.pinned (OpenSpec.upto fnExactRowOpSpec)

/-- 'laws.FnExactOpWord', WHERE WHAT IT READS IS OF BULK AT MOST 1048576: true; the input reads as it did. -/
def fnExactOpWordUptoRow : OpenClaim := { program := "ytjgoaaabfhjijaa", sum := "4010f5702f6c81b191efca1eb46d6190557b8d519d267d29837dba4e78d68891", func := "loop.example/g00851/laws.FnExactOpWord", spec := "fnExactOpWord", apart := false, narrowed := true }
def FnExactOpWordUptoSaid : Prop := fnExactOpWordUptoRow.holds Try.pinned (OpenSpec.upto fnExactOpWordSpec)

/-- 'laws.FnExactAskerOk', WHERE WHAT IT READS IS OF BULK AT MOST 1048576: true; the input reads as it did. -/
def fnExactAskerOkUptoRow : OpenClaim := { program := "ytjgoaaabfhjijaa", sum := "4010f5702f6c81b191efca1eb46d6190557b8d519d267d29837dba4e78d68891", func := "loop.example/g00851/laws.FnExactAskerOk", spec := "fnExactAskerOk", apart := false, narrowed := true }
def FnExactAskerOkUptoSaid : Prop := fnExactAskerOkUptoRow.holds Try.pinned (OpenSpec.upto fnExactAskerOkSpec)

/-- 'laws.FnExactEntryOk', WHERE WHAT IT READS IS OF BULK AT MOST 1048576: true; the input reads as it did. -/
def fnExactEntryOkUptoRow : OpenClaim := { program := "ytjgoaaabfhjijaa", sum := "4010f5702f6c81b191efca1eb46d6190557b8d519d267d29837dba4e78d68891", func := "loop.example/g00851/laws.FnExactEntryOk", spec := "fnExactEntryOk", apart := false, narrowed := true }
def FnExactEntryOkUptoSaid : Prop := fnExactEntryOkUptoRow.holds Try.pinned (OpenSpec.upto fnExactEntryOkSpec)

/-- 'laws.FnExactEntryRow', WHERE WHAT IT READS IS OF BULK AT MOST 1048576: true; the input reads as it did. -/
def fnExactEntryRowUptoRow : OpenClaim := { program := "ytjgoaaabfhjijaa", sum := "4010f5702f6c81b191efca1eb46d6190557b8d519d267d29837dba4e78d68891", func := "loop.example/g00851/laws.FnExactEntryRow", spec := "fnExactEntryRow", apart := false, narrowed := true }
def FnExactEntryRowUptoSaid : Prop := fnExactEntryRowUptoRow.holds Try.pinned (OpenSpec.upto fnExactEntryRowSpec)

/-- 'laws.FnExactRowEntry', WHERE WHAT IT READS IS OF BULK AT MOST 1048576: true; the input reads as it did. -/
def fnExactRowEntryUptoRow : OpenClaim := { program := "ytjgoaaabfhjijaa", sum := "4010f5702f6c81b191efca1eb46d6190557b8d519d267d29837dba4e78d68891", func := "loop.example/g00851/laws.FnExactRowEntry", spec := "fnExactRowEntry", apart := false, narrowed := true }
def FnExactRowEntryUptoSaid : Prop := fnExactRowEntryUptoRow.holds Try.pinned (OpenSpec.upto fnExactRowEntrySpec)

/-- 'laws.FnExactEntriesOk', WHERE WHAT IT READS IS OF BULK AT MOST 1048576: true; the input reads as it did. -/
def fnExactEntriesOkUptoRow : OpenClaim := { program := "ytjgoaaabfhjijaa", sum := "4010f5702f6c81b191efca1eb46d6190557b8d519d267d29837dba4e78d68891", func := "loop.example/g00851/laws.FnExactEntriesOk", spec := "fnExactEntriesOk", apart := false, narrowed := true }
def FnExactEntriesOkUptoSaid : Prop := fnExactEntriesOkUptoRow.holds Try.pinned (OpenSpec.upto fnExactEntriesOkSpec)

/-- 'laws.FnExactEntriesOf', WHERE WHAT IT READS IS OF BULK AT MOST 1048576: true; the input reads as it did. -/
def fnExactEntriesOfUptoRow : OpenClaim := { program := "ytjgoaaabfhjijaa", sum := "4010f5702f6c81b191efca1eb46d6190557b8d519d267d29837dba4e78d68891", func := "loop.example/g00851/laws.FnExactEntriesOf", spec := "fnExactEntriesOf", apart := false, narrowed := true }
def FnExactEntriesOfUptoSaid : Prop := fnExactEntriesOfUptoRow.holds Try.pinned (OpenSpec.upto fnExactEntriesOfSpec)

end Rows
end Go.Proofs.Ytjgoaaabfhjijaa

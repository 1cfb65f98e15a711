/- Parts of my texts: HeadS5. -/
import Derived.Test.YtmjifhjhialcbaaU16
import Derived.Test.YtmjifhjhialcbaaU21
namespace Go.Proofs.Ytmjifhjhialcbaa
set_option maxRecDepth 100000
set_option linter.unusedVariables false
open Go.RowKit
theorem ow_nil_mrksH (w : World) : Ow w [mrkD []] [.slice none 0 0] [] := Ow.row (n := 0) (us := []) (fp1 := []) (fp2 := []) (World.ownsRow_nil w 0 _ _) .nil .nil
theorem has_headZ (w : World) (base : Nat) : Has w base headZ.cells [.int .i64 0, .int .i64 0, .int .i64 0, .slice none 0 0] := Has.int (n := 0) (Has.int (n := 0) (Has.int (n := 0) ⟨[], ow_nil_mrksH w, List.nodup_nil, fun p hp => by cases hp⟩))
end Go.Proofs.Ytmjifhjhialcbaa

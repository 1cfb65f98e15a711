/-
  Chapter 11: rows of lists of jobs as mathematics (by program, wip/gen/genlettk.py).
-/
import Derived.Test.YtafbjmhjjbfaeaaLetJ
import Derived.Test.YtafbjmhjjbfaeaaMove
namespace Go.Proofs.Ytafbjmhjjbfaeaa
set_option maxRecDepth 100000
open Go.RowKit

theorem duesNs_snoc (l : List TimerM) (x : TimerM) : duesNs (l ++ [x]) = duesNs l ++ djNs x := by
  unfold duesNs
  rw [List.flatMap_append, List.flatMap_singleton]
theorem jobsNs_len {y0 y1 y2 y3 y4 : Int} {l : List TimerM} (h : l.length ≤ 8) : (jobsNs ⟨y0, y1, y2, y3, y4, l⟩).length ≤ 21 := by
  have h9 := duesNs_len l
  unfold jobsNs
  rw [List.length_append, h9]
  simp
  omega
theorem ints_srcL {w : World} {g : Nat} {a b : Int} {t : TypeId} (h : Blk w g #[.int .i64 a, .int .i64 b] t) : Src w (some ⟨g, 0, none⟩) 2 1 (ivals ([a, b].flatMap fun y : Int => [y])) :=
  Src.of_blk (off := 0) h fun i hi => by
    have h1 : i = 0 ∨ i = 1 := by omega
    rcases h1 with rfl | rfl <;> rfl

end Go.Proofs.Ytafbjmhjjbfaeaa

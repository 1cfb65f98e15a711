/-
  The model's draw of a number between two bounds.
-/
import Derived.Test.YtbjdfgdcmaflkaaDraw
namespace Go.Proofs.Ytbjdfgdcmaflkaa
open Go.RowKit

def Between (lo hi x : Int) : Prop := lo ≤ x ∧ x ≤ hi

theorem from_any (B p : Nat) (w : World) (h : Cur w B p) (lo hi : Int) (l0 : -1000000 ≤ lo) (l1 : lo ≤ hi) (l2 : hi ≤ 1000000) :
    Calls Try.prog 74 #[.pointer (some ⟨p, 0, none⟩), .int .i64 lo, .int .i64 hi] w (Rolls w B p (Between lo hi)) := by
  go_enter Try.func74, Try.ntmps74
  go_wp2_with fail
  refine (below_any B p _ h _ (by omega) (by omega)).mono ?_
  rintro e w1 ⟨x, ⟨x0, x1⟩, rfl, c1, g1⟩
  go_wp2
  go_ret
  exact ⟨_, ⟨by omega, by omega⟩, rfl, c1, g1⟩

end Go.Proofs.Ytbjdfgdcmaflkaa

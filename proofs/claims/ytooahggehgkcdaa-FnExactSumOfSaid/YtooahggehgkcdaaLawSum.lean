/-
  The law FnExactSumOf answers true at every slice of int64, and writes nothing that was there.
-/
import Derived.Test.YtooahggehgkcdaaTo
import Derived.Test.YtooahggehgkcdaaEq
import Derived.Test.YtooahggehgkcdaaSum
namespace Go.Proofs.Ytooahggehgkcdaa
open Go.RowKit

set_option maxHeartbeats 400000 in
theorem lawSum (A : Option Addr) (n c : Nat) (xs : List Int) (w : World) (h : IRow w w.heap.size A n xs) (hm : n ≤ maxLen) :
    Calls Try.prog 7 #[.slice A n c] w fun e w' => e = .returned (.bool true) ∧ Below w.heap.size w w' := by
  unfold maxLen at hm
  by_cases hn : 1048576 < n
  · clear h
    go_enter Try.func7, Try.ntmps7
    go_wp2
    go_ret
    exact ⟨rfl, Below.refl _ _⟩
  · go_enter Try.func7, Try.ntmps7
    go_wp2_with fail
    refine (to_any A n c xs _ h (by omega)).mono ?_
    rintro e w1 ⟨rfl, o1, b1⟩
    go_wp2_with fail
    refine (sSum_any _ n _ _ xs _ o1.irow (by omega)).mono ?_
    rintro e w1' ⟨rfl, rfl⟩
    have h1 := h.below b1
    go_wp2_with fail
    refine (to_any A n c xs _ (h1.up b1.size) (by omega)).mono ?_
    rintro e w2 ⟨rfl, o2, b2⟩
    have h2 := h1.below (b2.mono b1.size)
    have z1 := b1.size
    have z2 := b2.size
    go_wp2_with fail
    refine (iSum_any _ n _ _ xs _ o2.irow (by omega)).mono ?_
    rintro e w2' ⟨rfl, rfl⟩
    generalize sumOf xs = r
    go_wp2_with fail
    refine (to_any A n c xs _ (h2.up (by omega)) (by omega)).mono ?_
    rintro e w3 ⟨rfl, o3, b3⟩
    go_wp2_with fail
    refine (eq_yes _ _ n _ _ _ _ xs _ (o2.irow.below b3) o3.irow (by omega)).mono ?_
    rintro e w4 ⟨rfl, d4⟩
    go_wp2_with fail
    go_ret
    exact ⟨rfl, ((b1.trans (b2.mono z1)).trans (b3.mono (by omega))).trans (d4.below _)⟩

end Go.Proofs.Ytooahggehgkcdaa

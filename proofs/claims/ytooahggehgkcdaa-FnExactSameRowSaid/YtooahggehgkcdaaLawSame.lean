/-
  The law FnExactSameRow answers true at every two slices of int64, and writes nothing that was there.
-/
import Derived.Test.YtooahggehgkcdaaTo
import Derived.Test.YtooahggehgkcdaaSame
namespace Go.Proofs.Ytooahggehgkcdaa
open Go.RowKit

set_option maxHeartbeats 800000 in
theorem lawSame (A A' : Option Addr) (n m c c' : Nat) (xs ys : List Int) (w : World) (h : IRow w w.heap.size A n xs) (h' : IRow w w.heap.size A' m ys) (hnl : n ≤ maxLen) (hml : m ≤ maxLen) :
    Calls Try.prog 6 #[.slice A n c, .slice A' m c'] w fun e w' => e = .returned (.bool true) ∧ Below w.heap.size w w' := by
  unfold maxLen at hnl hml
  by_cases hn : 1048576 < n
  · clear h h'
    go_enter Try.func6, Try.ntmps6
    go_wp2
    go_ret
    exact ⟨rfl, Below.refl _ _⟩
  by_cases hm : 1048576 < m
  · clear h h'
    go_enter Try.func6, Try.ntmps6
    go_wp2
    go_ret
    exact ⟨rfl, Below.refl _ _⟩
  go_enter Try.func6, Try.ntmps6
  go_wp2_with fail
  refine (to_any A n c xs _ h (by omega)).mono ?_
  rintro e w1 ⟨rfl, o1, b1⟩
  have z1 := b1.size
  go_wp2_with fail
  refine (to_any A' m c' ys _ ((h'.below b1).up z1) (by omega)).mono ?_
  rintro e w2 ⟨rfl, o2, b2⟩
  have z2 := b2.size
  have b02 := b1.trans (b2.mono z1)
  go_wp2_with fail
  refine (sSame_any _ _ n m _ _ _ _ xs ys _ (o1.irow.below b2) o2.irow (by omega) (by omega)).mono ?_
  rintro e w3 ⟨rfl, d3⟩
  have b03 := b02.trans (d3.below _)
  have z3 := b03.size
  go_wp2_with fail
  refine (to_any A n c xs _ ((h.below b03).up z3) (by omega)).mono ?_
  rintro e w4 ⟨rfl, o4, b4⟩
  have z4 := b4.size
  have b04 := b03.trans (b4.mono z3)
  go_wp2_with fail
  refine (to_any A' m c' ys _ ((h'.below b04).up b04.size) (by omega)).mono ?_
  rintro e w5 ⟨rfl, o5, b5⟩
  have z5 := b5.size
  have b05 := b04.trans (b5.mono b04.size)
  have r4 := o4.irow.below b5
  go_wp2_with fail
  refine (iSame_any _ _ n m _ _ _ _ xs ys _ r4 o5.irow (by omega) (by omega)).mono ?_
  rintro e w5' ⟨rfl, rfl⟩
  generalize sameI xs ys = r
  go_wp2_with fail
  refine (to_any A n c xs _ ((h.below b05).up b05.size) (by omega)).mono ?_
  rintro e w6 ⟨rfl, o6, b6⟩
  have b06 := b05.trans (b6.mono b05.size)
  go_wp2_with fail
  refine (eq_yes _ _ n _ _ _ _ xs _ (r4.below (b6.mono z5)) o6.irow (by omega)).mono ?_
  rintro e w7 ⟨rfl, d7⟩
  have b07 := b06.trans (d7.below _)
  go_wp2_with fail
  refine (to_any A' m c' ys _ ((h'.below b07).up b07.size) (by omega)).mono ?_
  rintro e w8 ⟨rfl, o8, b8⟩
  have b08 := b07.trans (b8.mono b07.size)
  have b58 := (b6.trans (d7.below _)).trans (b8.mono (b6.trans (d7.below w5.heap.size)).size)
  go_wp2_with fail
  refine (eq_yes _ _ m _ _ _ _ ys _ (o5.irow.below b58) o8.irow (by omega)).mono ?_
  rintro e w9 ⟨rfl, d9⟩
  go_wp2_with fail
  go_ret
  exact ⟨rfl, b08.trans (d9.below _)⟩

end Go.Proofs.Ytooahggehgkcdaa

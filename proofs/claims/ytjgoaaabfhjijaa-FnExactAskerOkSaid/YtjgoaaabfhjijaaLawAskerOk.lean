/-
  Exact laws, over open contracts: whatever program function meets the model's contract, the law answers true and writes nothing that was there. Made by program (wip/lawgen.py).
-/
import Derived.Test.YtjgoaaabfhjijaaEnt
import Derived.Test.YtjgoaaabfhjijaaKA
import Derived.Deep.RegionHeld3
namespace Go.Proofs.Ytjgoaaabfhjijaa
set_option maxRecDepth 100000
open Go.RowKit

set_option maxHeartbeats 12800000 in
theorem lawAskerOk (f : Int → Bool)
    (hs : ∀ (x0 : Int) (w : World), Calls Try.prog 27 #[.int .i64 x0] w (fun e w' => e = .returned (.bool (f x0)) ∧ Below w.heap.size w w'))
    (hi : ∀ (x0 : Int) (w : World), Calls Try.prog 28 #[.int .i64 x0] w (fun e w' => e = .returned (.bool (f x0)) ∧ Below w.heap.size w w'))
    (x0 : Int) (w : World) :
    Calls Try.prog 7 #[.int .i64 x0] w fun e w' => e = .returned (.bool true) ∧ Below w.heap.size w w' := by
  have SP := Lib.hid hs
  have IM := Lib.hid hi
  clear hs hi
  have S := Sep.nil w w.heap.size
  have c := Below.refl w.heap.size w
  go_enter Try.func7, Try.ntmps7
  obtain ⟨fx0, hfx0⟩ : ∃ q, q = (f x0) := ⟨_, rfl⟩
  have HFX0 := Lib.hid hfx0
  clear hfx0
  go_wp2_with fail
  refine (SP.out _ _ ).mono ?_
  rintro e w1 ⟨rfl, b⟩
  replace c := c.trans (b.mono c.size)
  replace S := S.keep b
  clear b
  rw [← HFX0.out]
  go_wp2_with fail
  refine (IM.out _ _ ).mono ?_
  rintro e w2 ⟨rfl, b⟩
  replace c := c.trans (b.mono c.size)
  replace S := S.keep b
  clear b
  rw [← HFX0.out]
  go_wp2
  go_ret
  exact ⟨rfl, c⟩

end Go.Proofs.Ytjgoaaabfhjijaa

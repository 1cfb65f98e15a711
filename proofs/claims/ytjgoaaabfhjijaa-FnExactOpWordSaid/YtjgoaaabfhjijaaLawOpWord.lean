/-
  The exact law of OpWord over contracts of the model and of the program (by program, wip/gen/genentl.py).
-/
import Derived.Test.YtjgoaaabfhjijaaEnt
import Derived.RegionTactic
namespace Go.Proofs.Ytjgoaaabfhjijaa
set_option maxRecDepth 100000
open Go.RowKit

set_option maxHeartbeats 12800000 in
theorem lawOpWord (f : Int → ByteArray)
    (hs : ∀ (x : Int) (w : World), Calls Try.prog 25 #[.int .i64 x] w (fun e w' => e = .returned (.string (f x)) ∧ Below w.heap.size w w'))
    (hi : ∀ (x : Int) (w : World), Calls Try.prog 26 #[.int .i64 x] w (fun e w' => e = .returned (.string (f x)) ∧ Below w.heap.size w w'))
    (x : Int) (w : World) :
    Calls Try.prog 6 #[.int .i64 x] w fun e w' => e = .returned (.bool true) ∧ Below w.heap.size w w' := by
  have SP := Lib.hid hs
  have IM := Lib.hid hi
  clear hs hi
  have S := Sep.nil w w.heap.size
  have c := Below.refl w.heap.size w
  go_enter Try.func6, Try.ntmps6
  go_wp2_with fail
  refine (SP.out x _).mono ?_
  rintro e w1 ⟨rfl, b⟩
  replace c := c.trans (b.mono c.size)
  replace S := S.keep b
  clear b
  go_wp2_with fail
  refine (IM.out x _).mono ?_
  rintro e w2 ⟨rfl, b⟩
  replace c := c.trans (b.mono c.size)
  replace S := S.keep b
  clear b
  generalize f x = r at *
  have C := Lib.hid c
  clear S c
  go_wp2
  go_ret
  exact ⟨rfl, C.out⟩

end Go.Proofs.Ytjgoaaabfhjijaa

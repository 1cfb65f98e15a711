/-
  Chapter 6: a timer set: the forms that the exact law asks for.
-/
import Derived.Test.YthekcaahkokjfaaTimC11
import Derived.Test.YthekcaahkokjfaaTimC12
namespace Go.Proofs.Ythekcaahkokjfaa
set_option maxRecDepth 100000
open Go.RowKit

theorem sTimerSet_at (A0 : Option Addr) (n0 c0 : Nat) (d : List TimerM) (x y : Int) (w : World) (h : Rd w w.heap.size [timerD d] [.slice A0 n0 c0]) (hs : timerSz d ≤ 1048576) :
    Calls Try.prog 45 #[.slice A0 n0 c0, .int .i64 x, .int .i64 y] w fun e w' => ∃ (A0 : Option Addr) (n0 c0 : Nat), e = .returned (.tuple #[.slice A0 n0 c0, .bool (timerSetM d x y).2]) ∧ Has w' w.heap.size [timerD (timerSetM d x y).1] [.slice A0 n0 c0] ∧ Below w.heap.size w w' :=
  sTSet_any A0 n0 c0 d x y w h hs
theorem iTimerSet_at (A0 : Option Addr) (n0 c0 : Nat) (d : List TimerM) (x y : Int) (w : World) (h : Rd w w.heap.size [timerD d] [.slice A0 n0 c0]) (hs : timerSz d ≤ 1048576) :
    Calls Try.prog 25 #[.slice A0 n0 c0, .int .i64 x, .int .i64 y] w fun e w' => ∃ (A0 : Option Addr) (n0 c0 : Nat), e = .returned (.tuple #[.slice A0 n0 c0, .bool (timerSetM d x y).2]) ∧ Has w' w.heap.size [timerD (timerSetM d x y).1] [.slice A0 n0 c0] ∧ Below w.heap.size w w' :=
  iTSet_any A0 n0 c0 d x y w h hs

end Go.Proofs.Ythekcaahkokjfaa

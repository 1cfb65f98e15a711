/-
  Chapter 9: the program's seven functions meet their contracts by name (by program, wip/gen/genmarki8.py).
-/
import Derived.Test.YtlhmolomefbklaaMarkI8
namespace Go.Proofs.Ytlhmolomefbklaa
set_option maxRecDepth 100000
open Go.RowKit

theorem iSeenOk_c : CSeenOk 13 := fun A n cc l w h hs => iSeen_any A n cc w.heap.size l w h (Nat.le_refl _) hs
theorem iMarkOf_c : CMarkOf 16 := fun A n cc l q w h hs => iMarkOf_any A n cc w.heap.size l q w h (Nat.le_refl _) hs
theorem iFreshIn_c : CFreshIn 19 := fun A n cc l q s w h hs => iFreshIn_any A n cc w.heap.size l q s w h (Nat.le_refl _) hs
theorem iMarked_c : CMarked 22 := fun A n cc l e0 e1 e2 e3 e4 e5 e6 e7 e8 w h hs => iMarked_any A n cc w.heap.size l e0 e1 e2 e3 e4 e5 e6 e7 e8 w h (Nat.le_refl _) hs
theorem iSeenOver_c : CSeenOver 28 := fun A n cc l A5 n5 c5 es w h hs h5 hs5 => iSeenOver_any A A5 n cc n5 c5 w.heap.size l es w h (Nat.le_refl _) hs h5 hs5
theorem iLastSeen_c : CLastSeen 32 := fun A n cc l w h hs => iLastSeen_any A n cc w.heap.size l w h (Nat.le_refl _) hs
theorem iSameSeen_c : CSameSeen 34 := fun A n cc l A2 n2 c2 r w h hs h2 hs2 => iSameSeen_any A A2 n cc n2 c2 w.heap.size w.heap.size l r w h h2 (Nat.le_refl _) (Nat.le_refl _) hs hs2

end Go.Proofs.Ytlhmolomefbklaa

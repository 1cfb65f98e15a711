/-
  Chapter 9: the model meets its contracts (by program, wip/gen/genmarkc.py).
-/
import Derived.Test.YtlhmolomefbklaaMarkC
import Derived.Test.YtlhmolomefbklaaMarkS5
import Derived.RegionTactic
import Derived.BigQuiet
namespace Go.Proofs.Ytlhmolomefbklaa
set_option maxRecDepth 100000
open Go.RowKit

theorem sSeenOk_c : CSeenOk 11 := fun A n cc l w h hs => sSeen_any A n cc _ l w h (Nat.le_refl _) hs
theorem sMarkOf_c : CMarkOf 15 := fun A n cc l q w h hs => sMarkOf_any A n cc _ l q w h (Nat.le_refl _) hs
theorem sFreshIn_c : CFreshIn 18 := fun A n cc l q s w h hs => sFresh_any A n cc _ l q s w h (Nat.le_refl _) hs
theorem sMarked_c : CMarked 20 := fun A n cc l e0 e1 e2 e3 e4 e5 e6 e7 e8 w h hs => sMarked_any A n cc _ l e0 e1 e2 e3 e4 e5 e6 e7 e8 w h (Nat.le_refl _) hs
theorem sSeenOver_c : CSeenOver 26 := fun A n cc l A5 n5 c5 es w h hs h5 hs5 => sOver_any A n cc _ l A5 n5 c5 _ es w h (Nat.le_refl _) hs h5 (Nat.le_refl _) hs5
theorem sLastSeen_c : CLastSeen 31 := fun A n cc l w h hs => sLastS_any A n cc _ l w h (Nat.le_refl _) hs
theorem sSameSeen_c : CSameSeen 33 := fun A n cc l A2 n2 c2 r w h hs h2 hs2 => sSameMs_any A A2 n cc n2 c2 _ _ l r w h h2 (Nat.le_refl _) (Nat.le_refl _) hs hs2

end Go.Proofs.Ytlhmolomefbklaa

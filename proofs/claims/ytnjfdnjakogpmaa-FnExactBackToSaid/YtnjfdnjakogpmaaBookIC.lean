/-
  Chapter 8: the program meets its contracts (by program).
-/
import Derived.Test.YtnjfdnjakogpmaaBookI6
import Derived.Test.YtnjfdnjakogpmaaBookI7
import Derived.Test.YtnjfdnjakogpmaaBookIA
import Derived.Test.YtnjfdnjakogpmaaBookIB
import Derived.RegionTactic
import Derived.BigQuiet
namespace Go.Proofs.Ytnjfdnjakogpmaa
set_option maxRecDepth 100000
open Go.RowKit

theorem iBookOk_c : CBookOk 16 := fun x0 x1 A n cc l w h hs => iBookOk_any x0 x1 A n cc _ l w h (Nat.le_refl _) hs
theorem iLastOf_c : CLastOf 19 := fun x0 x1 A n cc l w h hs => iLastOf_any x0 x1 A n cc _ l w h (Nat.le_refl _) hs
theorem iTimeOf_c : CTimeOf 21 := fun x0 x1 A n cc l w h hs => iTimeOf_any x0 x1 A n cc _ l w h (Nat.le_refl _) hs
theorem iEntryAt_c : CEntryAt 23 := fun x0 x1 A n cc l i w h hs => iEntAt_any x0 x1 A n cc _ l i w h (Nat.le_refl _) hs
theorem iAppended_c : CAppended 27 := fun x0 x1 A n cc l e0 e1 e2 e3 e4 e5 e6 e7 e8 w h hs => iApp_any x0 x1 A n cc _ l e0 e1 e2 e3 e4 e5 e6 e7 e8 w h (Nat.le_refl _) hs
theorem iTrimmedTo_c : CTrimmedTo 37 := fun x0 x1 A n cc l i w h hs => iTrim_any x0 x1 A n cc _ l i w h (Nat.le_refl _) hs
theorem iBackTo_c : CBackTo 39 := fun x0 x1 A n cc l i w h hs => iBack_any x0 x1 A n cc _ l i w h (Nat.le_refl _) hs
theorem iPartOf_c : CPartOf 41 := fun x0 x1 A n cc l x k w h hs => iPart_any x0 x1 A n cc _ l x k w h (Nat.le_refl _) hs
theorem iGrown_c : CGrown 33 := fun x0 x1 A n cc l A5 n5 c5 ls w h hs h5 hs5 => iGrown_any x0 x1 A n cc _ l A5 n5 c5 _ ls w h (Nat.le_refl _) hs h5 (Nat.le_refl _) hs5
theorem iSameBook_c : CSameBook 44 := fun x0 x1 u0 u1 A A2 n cc n2 c2 l r w h hs h2 hs2 => iSameBook_any x0 x1 u0 u1 A A2 n cc n2 c2 _ _ l r w h h2 (Nat.le_refl _) (Nat.le_refl _) hs hs2

end Go.Proofs.Ytnjfdnjakogpmaa

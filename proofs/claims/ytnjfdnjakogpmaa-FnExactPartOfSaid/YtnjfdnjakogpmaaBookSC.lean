/-
  Chapter 8: the model meets its contracts (by program, wip/gen/genbookc.py).
-/
import Derived.Test.YtnjfdnjakogpmaaBookS4
import Derived.Test.YtnjfdnjakogpmaaBookS5
import Derived.Test.YtnjfdnjakogpmaaBookS6
import Derived.Test.YtnjfdnjakogpmaaBookS7
import Derived.RegionTactic
import Derived.BigQuiet
namespace Go.Proofs.Ytnjfdnjakogpmaa
set_option maxRecDepth 100000
open Go.RowKit

theorem sBookOk_c : CBookOk 14 := fun x0 x1 A n cc l w h hs => sBookOk_any x0 x1 A n cc _ l w h (Nat.le_refl _) hs
theorem sLastOf_c : CLastOf 18 := fun x0 x1 A n cc l w h hs => sLastOf_any x0 x1 A n cc _ l w h (Nat.le_refl _) hs
theorem sTimeOf_c : CTimeOf 20 := fun x0 x1 A n cc l w h hs => sTimeOf_any x0 x1 A n cc _ l w h (Nat.le_refl _) hs
theorem sEntryAt_c : CEntryAt 22 := fun x0 x1 A n cc l i w h hs => sEntAt_any x0 x1 A n cc _ l i w h (Nat.le_refl _) hs
theorem sAppended_c : CAppended 25 := fun x0 x1 A n cc l e0 e1 e2 e3 e4 e5 e6 e7 e8 w h hs => sApp_any x0 x1 A n cc _ l e0 e1 e2 e3 e4 e5 e6 e7 e8 w h (Nat.le_refl _) hs
theorem sTrimmedTo_c : CTrimmedTo 36 := fun x0 x1 A n cc l i w h hs => sTrim_any x0 x1 A n cc _ l i w h (Nat.le_refl _) hs
theorem sBackTo_c : CBackTo 38 := fun x0 x1 A n cc l i w h hs => sBack_any x0 x1 A n cc _ l i w h (Nat.le_refl _) hs
theorem sPartOf_c : CPartOf 40 := fun x0 x1 A n cc l x k w h hs => sPart_any x0 x1 A n cc _ l x k w h (Nat.le_refl _) hs
theorem sGrown_c : CGrown 31 := fun x0 x1 A n cc l A5 n5 c5 ls w h hs h5 hs5 => sGrown_any x0 x1 A n cc _ l A5 n5 c5 _ ls w h (Nat.le_refl _) hs h5 (Nat.le_refl _) hs5
theorem sSameBook_c : CSameBook 43 := fun x0 x1 u0 u1 A A2 n cc n2 c2 l r w h hs h2 hs2 => sSameBook_any x0 x1 u0 u1 A A2 n cc n2 c2 _ _ l r w h h2 (Nat.le_refl _) (Nat.le_refl _) hs hs2

end Go.Proofs.Ytnjfdnjakogpmaa

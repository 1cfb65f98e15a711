/- Parts of my texts: HeadIC LawZTorn. -/
import Derived.Test.YtmjifhjhialcbaaU23
import Derived.Test.YtmjifhjhialcbaaU36
namespace Go.Proofs.Ytmjifhjhialcbaa
set_option maxRecDepth 100000
set_option linter.unusedVariables false
open Go.RowKit
theorem iHeadRow_c : CHeadRow 10 := fun x0 x1 x2 A n cc l w h hs => (iHeadRow_any x0 x1 x2 A n cc _ l w h (Nat.le_refl _) hs).mono fun _ _ ⟨A2, n2, c2, he, _, o, b⟩ => ⟨A2, n2, c2, he, o, b⟩
theorem iRowHead_c : CRowHead 21 := fun A n cc d w h => iRowHead_any A n cc _ d w h (Nat.le_refl _)
theorem iSlotRow_c : CSlotRow 9 := fun x0 x1 x2 x3 x4 x5 x6 x7 x8 w => (iSlotRow_any x0 x1 x2 x3 x4 x5 x6 x7 x8 w).mono fun _ _ ⟨A2, n2, c2, he, _, o, b⟩ => ⟨A2, n2, c2, he, o, b⟩
theorem iRowSlot_c : CRowSlot 20 := fun A n cc d w h => iRowSlot_any A n cc _ d w h (Nat.le_refl _)
theorem lawTorn_i (A : Option Addr) (n c0 : Nat) (w : World) (h : BRow w w.heap.size A n) (hm : n ≤ maxLen) : Calls Try.prog 3 #[.slice A n c0] w fun e w' => e = .returned (.bool true) ∧ Below w.heap.size w w' :=
 lawTorn iSlotRow_c iHeadRow_c iRowSlot_c iRowHead_c A n c0 w h hm
end Go.Proofs.Ytmjifhjhialcbaa

/-
  Chapter 5: messages and networks, valid or not: the model's and the program's contracts in the laws' form.
-/
import Derived.Test.YthcagdcbifdfeaaNetC1
import Derived.Test.YthcagdcbifdfeaaNetC3
namespace Go.Proofs.Ythcagdcbifdfeaa
set_option maxRecDepth 100000
open Go.RowKit

theorem msg_open {x0 x1 : Int} {A : Option Addr} {n c B : Nat} {d : MsgM} {w : World} (h : Rd w B d.cells [.int .i64 x0, .int .i64 x1, .slice A n c]) : d = ⟨x0, x1, d.row⟩ ∧ IRow w B A n d.row := by
  obtain ⟨A', n', c', e0, e1, e2, h2⟩ := h.msgT
  injection e0 with _ e0
  injection e1 with _ e1
  injection e2 with a1 a2 a3
  subst e0 e1 a1 a2 a3
  obtain ⟨_, _, _, e, hi, _⟩ := h2.irow
  injection e with a1 a2 a3
  subst a1 a2 a3
  exact ⟨rfl, hi⟩
theorem iMsgOk_at (x0 x1 : Int) (A : Option Addr) (n c : Nat) (d : MsgM) (w : World) (h : Rd w w.heap.size d.cells [.int .i64 x0, .int .i64 x1, .slice A n c]) (hs : d.sz ≤ 1048576) :
    Calls Try.prog 71 #[.agg #[.int .i64 x0, .int .i64 x1, .slice A n c]] w fun e w' => e = .returned (.bool (msgOk d)) ∧ Below w.heap.size w w' := by
  obtain ⟨e, hi⟩ := msg_open h
  rw [e]
  exact iMsgOk_any x0 x1 A n c _ d.row w hi (Nat.le_refl _) (by have : d.row.length ≤ 1048576 := hs; have := hi.1; omega)
theorem iNetOk_at (A0 : Option Addr) (n0 c0 : Nat) (A1 : Option Addr) (n1 c1 : Nat) (t : NetM) (w : World) (h : Rd w w.heap.size t.cells [.slice A0 n0 c0, .slice A1 n1 c1]) (hs : t.sz ≤ 1048576) :
    Calls Try.prog 29 #[.agg #[.slice A0 n0 c0, .slice A1 n1 c1]] w fun e w' => e = .returned (.bool (netOk t)) ∧ Below w.heap.size w w' :=
  iNetOk_any _ _ t _ w h (Nat.le_refl _) (by omega)

end Go.Proofs.Ythcagdcbifdfeaa

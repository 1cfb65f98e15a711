/-
  Networks and single messages as plain data, and the laws' helpers for them (by program, wip/gen/typegen.py).
-/
import Derived.Test.YthcagdcbifdfeaaMsg
import Derived.Test.YthcagdcbifdfeaaLink
import Derived.Test.YthcagdcbifdfeaaKA
import Derived.RegionTactic
import Derived.BigQuiet
namespace Go.Proofs.Ythcagdcbifdfeaa
set_option maxRecDepth 100000
open Go.RowKit

def MsgM.cells (t : MsgM) : List Dat := [.int t.frm] ++ ([.int t.dest] ++ ((rowCells t.row)))
def MsgM.sz (t : MsgM) : Nat := t.row.length
def MsgM.n (t : MsgM) : Nat := t.row.length
def MarkedMsg (t : MsgM) (k : Int) : Prop := MarkedI t.row (k)
def MadeMsg (w : World) (t : MsgM) (e : Ending) (w' : World) : Prop :=
  ∃ (x0 : Int) (x1 : Int) (A2 : Option Addr) (n2 c2 : Nat), e = .returned (.agg #[.int .i64 x0, .int .i64 x1, .slice A2 n2 c2]) ∧ Has w' w.heap.size t.cells [.int .i64 x0, .int .i64 x1, .slice A2 n2 c2] ∧ Below w.heap.size w w'
theorem Rd.msgT {w : World} {B : Nat} {t : MsgM} {v0 v1 v2 : Value} (h : Rd w B t.cells [v0, v1, v2]) : ∃ (A2 : Option Addr) (n2 c2 : Nat), v0 = .int .i64 t.frm ∧ v1 = .int .i64 t.dest ∧ v2 = .slice A2 n2 c2 ∧ Rd w B (rowCells t.row) [.slice A2 n2 c2] := by
  have g0 : Rd w B ([.int t.frm] ++ ([.int t.dest] ++ ((rowCells t.row)))) [v0, v1, v2] := h
  obtain ⟨p0, g1⟩ := Rd.cut (ds := [.int t.frm]) (vs := [v0]) (vs' := [v1, v2]) g0 rfl
  obtain ⟨e0, _⟩ := Rd.int_cons p0
  obtain ⟨p1, g2⟩ := Rd.cut (ds := [.int t.dest]) (vs := [v1]) (vs' := [v2]) g1 rfl
  obtain ⟨e1, _⟩ := Rd.int_cons p1
  have p2 := g2
  obtain ⟨A2, n2, c2, e2, _⟩ := Rd.rowS p2
  subst e0
  subst e1
  subst e2
  exact ⟨A2, n2, c2, rfl, rfl, rfl, p2⟩
theorem Ow.msgT {w : World} {t : MsgM} {v0 v1 v2 : Value} {fp : List Nat} (h : Ow w t.cells [v0, v1, v2] fp) : ∃ f2, fp = f2 ++ ([]) ∧ Ow w (rowCells t.row) [v2] f2 := by
  have g0 : Ow w ([.int t.frm] ++ ([.int t.dest] ++ ((rowCells t.row) ++ ([])))) [v0, v1, v2] fp := h
  obtain ⟨_, g1⟩ := Ow.int_cons g0
  obtain ⟨_, g2⟩ := Ow.int_cons g1
  obtain ⟨f2, r2, rfl, o2, g3⟩ := Ow.cut (ds := (rowCells t.row)) (vs := [v2]) (vs' := []) g2 rfl
  have gz := Ow.nil_foot g3
  subst gz
  exact ⟨f2, rfl, o2⟩
theorem msg_n9 (t : MsgM) : t.n ≤ 9 * t.sz := by
  have h0 : t.row.length ≤ 9 * (t.row.length) := (Nat.le_trans (Nat.le_refl _) (Nat.le_mul_of_pos_left _ (by decide)))
  show t.row.length ≤ 9 * (t.row.length)
  omega
theorem msg_n_le (t : MsgM) (h : t.sz ≤ 1048577) : t.n ≤ 9437193 := by
  have := msg_n9 t
  omega

structure NetM where
  flight : List MsgM
  cuts : List LinkM
def NetM.cells (t : NetM) : List Dat := [msgD t.flight] ++ ([linkD t.cuts])
def NetM.sz (t : NetM) : Nat := msgSz t.flight + linkSz t.cuts
def NetM.n (t : NetM) : Nat := msgN t.flight + linkN t.cuts
def MarkedNet (t : NetM) (k : Int) : Prop := MarkedMsgS t.flight (k) ∧ MarkedLinkS t.cuts (k + (msgN t.flight : Int))
def MadeNet (w : World) (t : NetM) (e : Ending) (w' : World) : Prop :=
  ∃ (A0 : Option Addr) (n0 c0 : Nat) (A1 : Option Addr) (n1 c1 : Nat), e = .returned (.agg #[.slice A0 n0 c0, .slice A1 n1 c1]) ∧ Has w' w.heap.size t.cells [.slice A0 n0 c0, .slice A1 n1 c1] ∧ Below w.heap.size w w'
theorem Rd.netT {w : World} {B : Nat} {t : NetM} {v0 v1 : Value} (h : Rd w B t.cells [v0, v1]) : ∃ (A0 : Option Addr) (n0 c0 : Nat) (A1 : Option Addr) (n1 c1 : Nat), v0 = .slice A0 n0 c0 ∧ v1 = .slice A1 n1 c1 ∧ Rd w B ([msgD t.flight]) [.slice A0 n0 c0] ∧ Rd w B ([linkD t.cuts]) [.slice A1 n1 c1] := by
  have g0 : Rd w B ([msgD t.flight] ++ ([linkD t.cuts])) [v0, v1] := h
  obtain ⟨p0, g1⟩ := Rd.cut (ds := [msgD t.flight]) (vs := [v0]) (vs' := [v1]) g0 rfl
  obtain ⟨A0, n0, c0, e0, _⟩ := Rd.msgs p0
  have p1 := g1
  obtain ⟨A1, n1, c1, e1, _⟩ := Rd.links p1
  subst e0
  subst e1
  exact ⟨A0, n0, c0, A1, n1, c1, rfl, rfl, p0, p1⟩
theorem Ow.netT {w : World} {t : NetM} {v0 v1 : Value} {fp : List Nat} (h : Ow w t.cells [v0, v1] fp) : ∃ f0 f1, fp = f0 ++ (f1 ++ ([])) ∧ Ow w ([msgD t.flight]) [v0] f0 ∧ Ow w ([linkD t.cuts]) [v1] f1 := by
  have g0 : Ow w ([msgD t.flight] ++ ([linkD t.cuts] ++ ([]))) [v0, v1] fp := h
  obtain ⟨f0, r0, rfl, o0, g1⟩ := Ow.cut (ds := [msgD t.flight]) (vs := [v0]) (vs' := [v1]) g0 rfl
  obtain ⟨f1, r1, rfl, o1, g2⟩ := Ow.cut (ds := [linkD t.cuts]) (vs := [v1]) (vs' := []) g1 rfl
  have gz := Ow.nil_foot g2
  subst gz
  exact ⟨f0, f1, rfl, o0, o1⟩
theorem net_n9 (t : NetM) : t.n ≤ 9 * t.sz := by
  have h0 : msgN t.flight ≤ 9 * (msgSz t.flight) := (Nat.le_trans (msgN_le t.flight) (Nat.mul_le_mul_right _ (by decide)))
  have h1 : linkN t.cuts ≤ 9 * (linkSz t.cuts) := (Nat.le_trans (linkN_le t.cuts) (Nat.mul_le_mul_right _ (by decide)))
  show msgN t.flight + linkN t.cuts ≤ 9 * (msgSz t.flight + linkSz t.cuts)
  omega
theorem net_n_le (t : NetM) (h : t.sz ≤ 1048577) : t.n ≤ 9437193 := by
  have := net_n9 t
  omega

end Go.Proofs.Ythcagdcbifdfeaa

/-
  Messages and slices of them as plain data, and the laws' helpers for them (by program, wip/gen/typegen.py).
-/
import Derived.Test.YthcagdcbifdfeaaKA
import Derived.RegionTactic
import Derived.BigQuiet
namespace Go.Proofs.Ythcagdcbifdfeaa
set_option maxRecDepth 100000
open Go.RowKit

structure MsgM where
  frm : Int
  dest : Int
  row : List Int
def msgC (x : MsgM) : List Dat := [.int x.frm, .int x.dest, rowD x.row]
theorem msgC_len (x : MsgM) : (msgC x).length = 3 := rfl
def msgD (l : List MsgM) : Dat := lst 37 3 msgC l
def msgRowSz (x : MsgM) : Nat := x.row.length
def msgSz (l : List MsgM) : Nat := l.length + (l.map msgRowSz).sum
def msgNs (x : MsgM) : List Int := x.frm :: x.dest :: x.row
def msgN (l : List MsgM) : Nat := nums msgNs l l.length
def MarkedMsgS (l : List MsgM) (k : Int) : Prop := l.flatMap msgNs = upFrom k (l.flatMap msgNs).length
def MadeMsgS (w : World) (l : List MsgM) (e : Ending) (w' : World) : Prop :=
  ∃ A n c, e = .returned (.slice A n c) ∧ Has w' w.heap.size [msgD l] [.slice A n c] ∧ Below w.heap.size w w'
theorem infoMsg : (Try.prog.info? 37).map (fun i => (i.zero, i.size, i.bytes)) = some (some (.agg #[.int .i64 0, .int .i64 0, .slice none 0 0]), 3, 40) := by kernel_rfl
theorem ow_zero_msg (w : World) : Ow w (msgC (⟨0, 0, []⟩ : MsgM)) [.int .i64 0, .int .i64 0, .slice none 0 0] [] := .int (.int (ow_nil_row w))
theorem Rd.msgs {w : World} {B : Nat} {v0 : Value} {l : List MsgM} (h : Rd w B [msgD l] [v0]) : ∃ A n c, v0 = .slice A n c ∧ l.length = n ∧ n ≤ c ∧ c ≤ maxLen ∧
    (0 < n → ∃ b off, A = some ⟨b, off, none⟩ ∧ b < B ∧ ∀ j (hj : j < l.length), ∃ A' m c', w.cell? ⟨b, off + j * 3, none⟩ = some (.int .i64 l[j].frm) ∧ w.cell? ⟨b, off + j * 3 + 1, none⟩ = some (.int .i64 l[j].dest) ∧ w.cell? ⟨b, off + j * 3 + 2, none⟩ = some (.slice A' m c') ∧ IRow w B A' m l[j].row ∧ m ≤ c' ∧ c' ≤ maxLen) := by
  obtain ⟨A, n, c, rfl, hl, h1, h2, h3⟩ := Rd.lst (k := 3) msgC_len (by decide) h
  refine ⟨A, n, c, rfl, hl, h1, h2, fun hn => ?_⟩
  obtain ⟨b, off, rfl, hb, hc⟩ := h3 hn
  refine ⟨b, off, rfl, hb, fun j hj => ?_⟩
  obtain ⟨es, he, hr, hcell⟩ := hc j hj
  match es, he with
  | [u0, u1, u2], _ =>
    have h0' := hcell 0 (by omega)
    have h1' := hcell 1 (by omega)
    have h2' := hcell 2 (by omega)
    simp only [Nat.add_zero] at h0'
    have g0 : Rd w B (msgC l[j]) [u0, u1, u2] := hr
    obtain ⟨e0, g1⟩ := Rd.int_cons g0
    obtain ⟨e1, g2⟩ := Rd.int_cons g1
    obtain ⟨A', m, c', er, hi, hm⟩ := Rd.irow g2
    subst e0
    subst e1
    subst er
    exact ⟨A', m, c', h0', h1', h2', hi, hm⟩
theorem Ow.msg {w : World} {x : MsgM} {y0 y1 y2 : Value} {f2 : List Nat} (h : Ow w (msgC x) [y0, y1, y2] f2) : y0 = .int .i64 x.frm ∧ y1 = .int .i64 x.dest ∧ ∃ A m c, y2 = .slice A m c ∧ Own w 0 A m c x.row ∧ f2 = (Value.slice A m c).ownBlock.toList := by
  have g0 : Ow w (msgC x) [y0, y1, y2] f2 := h
  obtain ⟨e0, g1⟩ := Ow.int_cons g0
  obtain ⟨e1, g2⟩ := Ow.int_cons g1
  obtain ⟨A, m, c, er, o, ef⟩ := Ow.own g2
  exact ⟨e0, e1, A, m, c, er, o, by rw [ef, er]⟩
theorem msgN_eq (l : List MsgM) : (l.map (fun r => (msgNs r).length)).sum = 2 * l.length + (l.map msgRowSz).sum := by
  induction l with
  | nil => rfl
  | cons x l ih =>
    rw [List.map_cons, List.sum_cons, ih, List.map_cons, List.sum_cons, List.length_cons]
    have h1 : (msgNs x).length = x.row.length + 2 := rfl
    have h2 : msgRowSz x = x.row.length := rfl
    omega
theorem msgN_le (l : List MsgM) : msgN l ≤ 2 * msgSz l := by
  unfold msgN nums
  rw [pre_all, msgN_eq]
  unfold msgSz
  omega
theorem msgSz_map {l l' : List MsgM} (h : l'.map (fun r => (msgNs r).length) = l.map (fun r => (msgNs r).length)) : msgSz l' = msgSz l := by
  have h1 := len_of_map h
  have h2 := congrArg List.sum h
  rw [msgN_eq, msgN_eq, h1] at h2
  unfold msgSz
  omega

end Go.Proofs.Ythcagdcbifdfeaa

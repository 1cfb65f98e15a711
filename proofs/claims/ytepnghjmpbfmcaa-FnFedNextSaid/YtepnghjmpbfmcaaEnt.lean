/-
  Operations, entries and slices of entries as plain data, and the laws' helpers for them (by program, wip/gen/genent.py).
-/
import Derived.Test.YtepnghjmpbfmcaaKA
import Derived.RegionTactic
import Derived.BigQuiet
namespace Go.Proofs.Ytepnghjmpbfmcaa
set_option maxRecDepth 100000
open Go.RowKit

structure OpM where
  kind : Int
  a : Int
  b : Int
  c : Int
  d : Int
def opC (x : OpM) : List Dat := [.int x.kind, .int x.a, .int x.b, .int x.c, .int x.d]
theorem opC_len (x : OpM) : (opC x).length = 5 := rfl

structure EntM where
  idx : Int
  tm : Int
  cl : Int
  sq : Int
  kd : Int
  oa : Int
  ob : Int
  oc : Int
  od : Int
def entC (x : EntM) : List Dat := [.int x.idx, .int x.tm, .int x.cl, .int x.sq, .int x.kd, .int x.oa, .int x.ob, .int x.oc, .int x.od]
theorem entC_len (x : EntM) : (entC x).length = 9 := rfl
def entD (l : List EntM) : Dat := lst 83 9 entC l
def entSz (l : List EntM) : Nat := l.length
def entNs (x : EntM) : List Int := x.idx :: x.tm :: x.cl :: x.sq :: x.kd :: x.oa :: x.ob :: x.oc :: x.od :: []
def entN (l : List EntM) : Nat := nums entNs l l.length
def MarkedEntryS (l : List EntM) (k : Int) : Prop := l.flatMap entNs = upFrom k (l.flatMap entNs).length
def MadeEntryS (w : World) (l : List EntM) (e : Ending) (w' : World) : Prop :=
  ∃ A n c, e = .returned (.slice A n c) ∧ Has w' w.heap.size [entD l] [.slice A n c] ∧ Below w.heap.size w w'
theorem infoEntry : (Try.prog.info? 83).map (fun i => (i.zero, i.size, i.bytes)) = some (some (.agg #[.int .i64 0, .int .i64 0, .int .i64 0, .int .i64 0, .int .i64 0, .int .i64 0, .int .i64 0, .int .i64 0, .int .i64 0]), 9, 72) := by kernel_rfl
theorem ow_zero_ent (w : World) : Ow w (entC (⟨0, 0, 0, 0, 0, 0, 0, 0, 0⟩ : EntM)) [.int .i64 0, .int .i64 0, .int .i64 0, .int .i64 0, .int .i64 0, .int .i64 0, .int .i64 0, .int .i64 0, .int .i64 0] [] := .int (.int (.int (.int (.int (.int (.int (.int (.int (.nil)))))))))
theorem Rd.ents {w : World} {B : Nat} {v0 : Value} {l : List EntM} (h : Rd w B [entD l] [v0]) : ∃ A n c, v0 = .slice A n c ∧ l.length = n ∧ n ≤ c ∧ c ≤ maxLen ∧
    (0 < n → ∃ b off, A = some ⟨b, off, none⟩ ∧ b < B ∧ ∀ j (hj : j < l.length), w.cell? ⟨b, off + j * 9, none⟩ = some (.int .i64 l[j].idx) ∧ w.cell? ⟨b, off + j * 9 + 1, none⟩ = some (.int .i64 l[j].tm) ∧ w.cell? ⟨b, off + j * 9 + 2, none⟩ = some (.int .i64 l[j].cl) ∧ w.cell? ⟨b, off + j * 9 + 3, none⟩ = some (.int .i64 l[j].sq) ∧ w.cell? ⟨b, off + j * 9 + 4, none⟩ = some (.int .i64 l[j].kd) ∧ w.cell? ⟨b, off + j * 9 + 5, none⟩ = some (.int .i64 l[j].oa) ∧ w.cell? ⟨b, off + j * 9 + 6, none⟩ = some (.int .i64 l[j].ob) ∧ w.cell? ⟨b, off + j * 9 + 7, none⟩ = some (.int .i64 l[j].oc) ∧ w.cell? ⟨b, off + j * 9 + 8, none⟩ = some (.int .i64 l[j].od)) := by
  obtain ⟨A, n, c, rfl, hl, h1, h2, h3⟩ := Rd.lst (k := 9) entC_len (by decide) h
  refine ⟨A, n, c, rfl, hl, h1, h2, fun hn => ?_⟩
  obtain ⟨b, off, rfl, hb, hc⟩ := h3 hn
  refine ⟨b, off, rfl, hb, fun j hj => ?_⟩
  obtain ⟨es, he, hr, hcell⟩ := hc j hj
  match es, he with
  | [u0, u1, u2, u3, u4, u5, u6, u7, u8], _ =>
    have h0' := hcell 0 (by omega)
    have h1' := hcell 1 (by omega)
    have h2' := hcell 2 (by omega)
    have h3' := hcell 3 (by omega)
    have h4' := hcell 4 (by omega)
    have h5' := hcell 5 (by omega)
    have h6' := hcell 6 (by omega)
    have h7' := hcell 7 (by omega)
    have h8' := hcell 8 (by omega)
    simp only [Nat.add_zero] at h0'
    have g0 : Rd w B (entC l[j]) [u0, u1, u2, u3, u4, u5, u6, u7, u8] := hr
    obtain ⟨e0, g1⟩ := Rd.int_cons g0
    obtain ⟨e1, g2⟩ := Rd.int_cons g1
    obtain ⟨e2, g3⟩ := Rd.int_cons g2
    obtain ⟨e3, g4⟩ := Rd.int_cons g3
    obtain ⟨e4, g5⟩ := Rd.int_cons g4
    obtain ⟨e5, g6⟩ := Rd.int_cons g5
    obtain ⟨e6, g7⟩ := Rd.int_cons g6
    obtain ⟨e7, g8⟩ := Rd.int_cons g7
    obtain ⟨e8, g9⟩ := Rd.int_cons g8
    subst e0
    subst e1
    subst e2
    subst e3
    subst e4
    subst e5
    subst e6
    subst e7
    subst e8
    exact ⟨h0', h1', h2', h3', h4', h5', h6', h7', h8'⟩
theorem Ow.ent {w : World} {x : EntM} {y0 y1 y2 y3 y4 y5 y6 y7 y8 : Value} {f2 : List Nat} (h : Ow w (entC x) [y0, y1, y2, y3, y4, y5, y6, y7, y8] f2) : y0 = .int .i64 x.idx ∧ y1 = .int .i64 x.tm ∧ y2 = .int .i64 x.cl ∧ y3 = .int .i64 x.sq ∧ y4 = .int .i64 x.kd ∧ y5 = .int .i64 x.oa ∧ y6 = .int .i64 x.ob ∧ y7 = .int .i64 x.oc ∧ y8 = .int .i64 x.od ∧ f2 = [] := by
  have g0 : Ow w (entC x) [y0, y1, y2, y3, y4, y5, y6, y7, y8] f2 := h
  obtain ⟨e0, g1⟩ := Ow.int_cons g0
  obtain ⟨e1, g2⟩ := Ow.int_cons g1
  obtain ⟨e2, g3⟩ := Ow.int_cons g2
  obtain ⟨e3, g4⟩ := Ow.int_cons g3
  obtain ⟨e4, g5⟩ := Ow.int_cons g4
  obtain ⟨e5, g6⟩ := Ow.int_cons g5
  obtain ⟨e6, g7⟩ := Ow.int_cons g6
  obtain ⟨e7, g8⟩ := Ow.int_cons g7
  obtain ⟨e8, g9⟩ := Ow.int_cons g8
  exact ⟨e0, e1, e2, e3, e4, e5, e6, e7, e8, Ow.nil_foot g9⟩
theorem entN_eq (l : List EntM) : (l.map (fun r => (entNs r).length)).sum = 9 * l.length := by
  induction l with
  | nil => rfl
  | cons x l ih =>
    rw [List.map_cons, List.sum_cons, ih, List.length_cons]
    have h1 : (entNs x).length = 9 := rfl
    omega
theorem entN_le (l : List EntM) : entN l ≤ 9 * entSz l := by
  unfold entN nums
  rw [pre_all, entN_eq]
  unfold entSz
  omega
theorem entSz_map {l l' : List EntM} (h : l'.map (fun r => (entNs r).length) = l.map (fun r => (entNs r).length)) : entSz l' = entSz l := by
  have h1 := len_of_map h
  exact h1

theorem entN_b (l : List EntM) (h : entSz l ≤ 1048577) : entN l ≤ 9437193 := by
  have := entN_le l
  omega


end Go.Proofs.Ytepnghjmpbfmcaa

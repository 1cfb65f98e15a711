/-
  Operations, entries and slices of entries as plain data, and the laws' helpers for them (by program, wip/gen/genent.py).
-/
import Derived.Test.YtifgcnicojpabaaKA
import Derived.RegionTactic
import Derived.BigQuiet
namespace Go.Proofs.Ytifgcnicojpabaa
set_option maxRecDepth 100000
open Go.RowKit

structure OpM where
  kind : Int
  a : Int
  b : Int
  c : Int
  d : Int
def opC (x : OpM) : List Dat := [.int x.kind, .int x.a, .int x.b, .int x.c, .int x.d]
theorem opC_len (x : OpM) : (opC x).length = 5 := rfl

set_option maxHeartbeats 1600000 in
theorem toOp_any (x0 x1 x2 x3 x4 : Int) (w : World) :
    Calls Try.prog 33 #[.agg #[.int .i64 x0, .int .i64 x1, .int .i64 x2, .int .i64 x3, .int .i64 x4]] w fun e w' => e = .returned (.agg #[.int .i64 x0, .int .i64 x1, .int .i64 x2, .int .i64 x3, .int .i64 x4]) ∧ Below w.heap.size w w' := by
  have C := Lib.hid ((((Below.refl w.heap.size w).alloc (Nat.le_refl _) (.cells #[.int .i64 x0, .int .i64 x1, .int .i64 x2, .int .i64 x3, .int .i64 x4] 23)).alloc (by simp) (.cells #[.int .i64 x0, .int .i64 x1, .int .i64 x2, .int .i64 x3, .int .i64 x4] 27)).alloc (by simp; omega) (.cells #[.int .i64 x0, .int .i64 x1, .int .i64 x2, .int .i64 x3, .int .i64 x4] 27))
  go_enter Try.func33, Try.ntmps33
  go_wp2
  exact bodyPost_ret (v := .agg #[.int .i64 x0, .int .i64 x1, .int .i64 x2, .int .i64 x3, .int .i64 x4]) (by simp [results, Try.results33, go_sem]) rfl ⟨rfl, C.out⟩

structure EntM where
  idx : Int
  tm : Int
  cl : Int
  sq : Int
  kd : Int
  oa : Int
  ob : Int
  oc : Int
  od : Int
def entC (x : EntM) : List Dat := [.int x.idx, .int x.tm, .int x.cl, .int x.sq, .int x.kd, .int x.oa, .int x.ob, .int x.oc, .int x.od]
theorem entC_len (x : EntM) : (entC x).length = 9 := rfl
def entSz (l : List EntM) : Nat := l.length
def entNs (x : EntM) : List Int := x.idx :: x.tm :: x.cl :: x.sq :: x.kd :: x.oa :: x.ob :: x.oc :: x.od :: []
def entN (l : List EntM) : Nat := nums entNs l l.length
def MarkedEntryS (l : List EntM) (k : Int) : Prop := l.flatMap entNs = upFrom k (l.flatMap entNs).length
theorem ow_zero_ent (w : World) : Ow w (entC (⟨0, 0, 0, 0, 0, 0, 0, 0, 0⟩ : EntM)) [.int .i64 0, .int .i64 0, .int .i64 0, .int .i64 0, .int .i64 0, .int .i64 0, .int .i64 0, .int .i64 0, .int .i64 0] [] := .int (.int (.int (.int (.int (.int (.int (.int (.int (.nil)))))))))
theorem Ow.ent {w : World} {x : EntM} {y0 y1 y2 y3 y4 y5 y6 y7 y8 : Value} {f2 : List Nat} (h : Ow w (entC x) [y0, y1, y2, y3, y4, y5, y6, y7, y8] f2) : y0 = .int .i64 x.idx ∧ y1 = .int .i64 x.tm ∧ y2 = .int .i64 x.cl ∧ y3 = .int .i64 x.sq ∧ y4 = .int .i64 x.kd ∧ y5 = .int .i64 x.oa ∧ y6 = .int .i64 x.ob ∧ y7 = .int .i64 x.oc ∧ y8 = .int .i64 x.od ∧ f2 = [] := by
  have g0 : Ow w (entC x) [y0, y1, y2, y3, y4, y5, y6, y7, y8] f2 := h
  obtain ⟨e0, g1⟩ := Ow.int_cons g0
  obtain ⟨e1, g2⟩ := Ow.int_cons g1
  obtain ⟨e2, g3⟩ := Ow.int_cons g2
  obtain ⟨e3, g4⟩ := Ow.int_cons g3
  obtain ⟨e4, g5⟩ := Ow.int_cons g4
  obtain ⟨e5, g6⟩ := Ow.int_cons g5
  obtain ⟨e6, g7⟩ := Ow.int_cons g6
  obtain ⟨e7, g8⟩ := Ow.int_cons g7
  obtain ⟨e8, g9⟩ := Ow.int_cons g8
  exact ⟨e0, e1, e2, e3, e4, e5, e6, e7, e8, Ow.nil_foot g9⟩
theorem entN_eq (l : List EntM) : (l.map (fun r => (entNs r).length)).sum = 9 * l.length := by
  induction l with
  | nil => rfl
  | cons x l ih =>
    rw [List.map_cons, List.sum_cons, ih, List.length_cons]
    have h1 : (entNs x).length = 9 := rfl
    omega
theorem entN_le (l : List EntM) : entN l ≤ 9 * entSz l := by
  unfold entN nums
  rw [pre_all, entN_eq]
  unfold entSz
  omega
theorem entSz_map {l l' : List EntM} (h : l'.map (fun r => (entNs r).length) = l.map (fun r => (entNs r).length)) : entSz l' = entSz l := by
  have h1 := len_of_map h
  exact h1

theorem entN_b (l : List EntM) (h : entSz l ≤ 1048577) : entN l ≤ 9437193 := by
  have := entN_le l
  omega


end Go.Proofs.Ytifgcnicojpabaa

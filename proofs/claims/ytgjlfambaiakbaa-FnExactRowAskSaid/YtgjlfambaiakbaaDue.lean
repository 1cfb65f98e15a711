/-
  Open jobs as plain data, and the laws' helpers for them (by program, wip/gen/genlet0.py).
-/
import Derived.Test.YtgjlfambaiakbaaTimer
import Derived.RegionTactic
import Derived.BigQuiet
namespace Go.Proofs.Ytgjlfambaiakbaa
set_option maxRecDepth 100000
open Go.RowKit

def djC (x : TimerM) : List Dat := [.int x.tid, .int x.due]
theorem djC_len (x : TimerM) : (djC x).length = 2 := rfl
def djD (l : List TimerM) : Dat := lst 87 2 djC l
def djSz (l : List TimerM) : Nat := l.length
def djNs (x : TimerM) : List Int := x.tid :: x.due :: []
def djN (l : List TimerM) : Nat := nums djNs l l.length
def MarkedDueS (l : List TimerM) (k : Int) : Prop := l.flatMap djNs = upFrom k (l.flatMap djNs).length
def MadeDueS (w : World) (l : List TimerM) (e : Ending) (w' : World) : Prop :=
  ∃ A n c, e = .returned (.slice A n c) ∧ Has w' w.heap.size [djD l] [.slice A n c] ∧ Below w.heap.size w w'
theorem infoDue : (Try.prog.info? 87).map (fun i => (i.zero, i.size, i.bytes)) = some (some (.agg #[.int .i64 0, .int .i64 0]), 2, 16) := by kernel_rfl
theorem ow_zero_dj (w : World) : Ow w (djC (⟨0, 0⟩ : TimerM)) [.int .i64 0, .int .i64 0] [] := .int (.int (.nil))
theorem Rd.djs {w : World} {B : Nat} {v0 : Value} {l : List TimerM} (h : Rd w B [djD l] [v0]) : ∃ A n c, v0 = .slice A n c ∧ l.length = n ∧ n ≤ c ∧ c ≤ maxLen ∧
    (0 < n → ∃ b off, A = some ⟨b, off, none⟩ ∧ b < B ∧ ∀ j (hj : j < l.length), w.cell? ⟨b, off + j * 2, none⟩ = some (.int .i64 l[j].tid) ∧ w.cell? ⟨b, off + j * 2 + 1, none⟩ = some (.int .i64 l[j].due)) := by
  obtain ⟨A, n, c, rfl, hl, h1, h2, h3⟩ := Rd.lst (k := 2) djC_len (by decide) h
  refine ⟨A, n, c, rfl, hl, h1, h2, fun hn => ?_⟩
  obtain ⟨b, off, rfl, hb, hc⟩ := h3 hn
  refine ⟨b, off, rfl, hb, fun j hj => ?_⟩
  obtain ⟨es, he, hr, hcell⟩ := hc j hj
  match es, he with
  | [u0, u1], _ =>
    have h0' := hcell 0 (by omega)
    have h1' := hcell 1 (by omega)
    simp only [Nat.add_zero] at h0'
    have g0 : Rd w B (djC l[j]) [u0, u1] := hr
    obtain ⟨e0, g1⟩ := Rd.int_cons g0
    obtain ⟨e1, g2⟩ := Rd.int_cons g1
    subst e0
    subst e1
    exact ⟨h0', h1'⟩
theorem Ow.dj {w : World} {x : TimerM} {y0 y1 : Value} {f2 : List Nat} (h : Ow w (djC x) [y0, y1] f2) : y0 = .int .i64 x.tid ∧ y1 = .int .i64 x.due ∧ f2 = [] := by
  have g0 : Ow w (djC x) [y0, y1] f2 := h
  obtain ⟨e0, g1⟩ := Ow.int_cons g0
  obtain ⟨e1, g2⟩ := Ow.int_cons g1
  exact ⟨e0, e1, Ow.nil_foot g2⟩
theorem djN_eq (l : List TimerM) : (l.map (fun r => (djNs r).length)).sum = 2 * l.length := by
  induction l with
  | nil => rfl
  | cons x l ih =>
    rw [List.map_cons, List.sum_cons, ih, List.length_cons]
    have h1 : (djNs x).length = 2 := rfl
    omega
theorem djN_le (l : List TimerM) : djN l ≤ 2 * djSz l := by
  unfold djN nums
  rw [pre_all, djN_eq]
  unfold djSz
  omega
theorem djSz_map {l l' : List TimerM} (h : l'.map (fun r => (djNs r).length) = l.map (fun r => (djNs r).length)) : djSz l' = djSz l := by
  have h1 := len_of_map h
  exact h1

theorem djN_b (l : List TimerM) (h : djSz l ≤ 1048577) : djN l ≤ 9437193 := by
  have := djN_le l
  omega

end Go.Proofs.Ytgjlfambaiakbaa

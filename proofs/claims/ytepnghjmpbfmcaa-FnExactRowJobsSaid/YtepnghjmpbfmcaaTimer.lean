/-
  Timers and slices of them as plain data, and the laws' helpers for them (by program, wip/gen/typegen.py).
-/
import Derived.Test.YtepnghjmpbfmcaaKA
import Derived.RegionTactic
import Derived.BigQuiet
namespace Go.Proofs.Ytepnghjmpbfmcaa
set_option maxRecDepth 100000
open Go.RowKit

structure TimerM where
  tid : Int
  due : Int
def timerC (x : TimerM) : List Dat := [.int x.tid, .int x.due]
theorem timerC_len (x : TimerM) : (timerC x).length = 2 := rfl
def timerD (l : List TimerM) : Dat := lst 143 2 timerC l
def timerSz (l : List TimerM) : Nat := l.length
def timerNs (x : TimerM) : List Int := x.tid :: x.due :: []
def timerN (l : List TimerM) : Nat := nums timerNs l l.length
def MarkedTimerS (l : List TimerM) (k : Int) : Prop := l.flatMap timerNs = upFrom k (l.flatMap timerNs).length
def MadeTimerS (w : World) (l : List TimerM) (e : Ending) (w' : World) : Prop :=
  ∃ A n c, e = .returned (.slice A n c) ∧ Has w' w.heap.size [timerD l] [.slice A n c] ∧ Below w.heap.size w w'
theorem infoTimer : (Try.prog.info? 143).map (fun i => (i.zero, i.size, i.bytes)) = some (some (.agg #[.int .i64 0, .int .i64 0]), 2, 16) := by kernel_rfl
theorem ow_zero_timer (w : World) : Ow w (timerC (⟨0, 0⟩ : TimerM)) [.int .i64 0, .int .i64 0] [] := .int (.int (.nil))
theorem Rd.timers {w : World} {B : Nat} {v0 : Value} {l : List TimerM} (h : Rd w B [timerD l] [v0]) : ∃ A n c, v0 = .slice A n c ∧ l.length = n ∧ n ≤ c ∧ c ≤ maxLen ∧
    (0 < n → ∃ b off, A = some ⟨b, off, none⟩ ∧ b < B ∧ ∀ j (hj : j < l.length), w.cell? ⟨b, off + j * 2, none⟩ = some (.int .i64 l[j].tid) ∧ w.cell? ⟨b, off + j * 2 + 1, none⟩ = some (.int .i64 l[j].due)) := by
  obtain ⟨A, n, c, rfl, hl, h1, h2, h3⟩ := Rd.lst (k := 2) timerC_len (by decide) h
  refine ⟨A, n, c, rfl, hl, h1, h2, fun hn => ?_⟩
  obtain ⟨b, off, rfl, hb, hc⟩ := h3 hn
  refine ⟨b, off, rfl, hb, fun j hj => ?_⟩
  obtain ⟨es, he, hr, hcell⟩ := hc j hj
  match es, he with
  | [u0, u1], _ =>
    have h0' := hcell 0 (by omega)
    have h1' := hcell 1 (by omega)
    simp only [Nat.add_zero] at h0'
    have g0 : Rd w B (timerC l[j]) [u0, u1] := hr
    obtain ⟨e0, g1⟩ := Rd.int_cons g0
    obtain ⟨e1, g2⟩ := Rd.int_cons g1
    subst e0
    subst e1
    exact ⟨h0', h1'⟩
theorem Ow.timer {w : World} {x : TimerM} {y0 y1 : Value} {f2 : List Nat} (h : Ow w (timerC x) [y0, y1] f2) : y0 = .int .i64 x.tid ∧ y1 = .int .i64 x.due ∧ f2 = [] := by
  have g0 : Ow w (timerC x) [y0, y1] f2 := h
  obtain ⟨e0, g1⟩ := Ow.int_cons g0
  obtain ⟨e1, g2⟩ := Ow.int_cons g1
  exact ⟨e0, e1, Ow.nil_foot g2⟩
theorem timerN_eq (l : List TimerM) : (l.map (fun r => (timerNs r).length)).sum = 2 * l.length := by
  induction l with
  | nil => rfl
  | cons x l ih =>
    rw [List.map_cons, List.sum_cons, ih, List.length_cons]
    have h1 : (timerNs x).length = 2 := rfl
    omega
theorem timerN_le (l : List TimerM) : timerN l ≤ 2 * timerSz l := by
  unfold timerN nums
  rw [pre_all, timerN_eq]
  unfold timerSz
  omega
theorem timerSz_map {l l' : List TimerM} (h : l'.map (fun r => (timerNs r).length) = l.map (fun r => (timerNs r).length)) : timerSz l' = timerSz l := by
  have h1 := len_of_map h
  exact h1

theorem timerN_b (l : List TimerM) (h : timerSz l ≤ 1048577) : timerN l ≤ 9437193 := by
  have := timerN_le l
  omega

end Go.Proofs.Ytepnghjmpbfmcaa

/-
  Lists of jobs as plain data, and the laws' helpers for them (by program, wip/gen/genlet0.py).
-/
import Derived.Test.YtgjlfambaiakbaaDue
import Derived.RegionTactic
import Derived.BigQuiet
namespace Go.Proofs.Ytgjlfambaiakbaa
set_option maxRecDepth 100000
open Go.RowKit

structure JobsM where
  ix : Int
  tm : Int
  ho : Int
  ep : Int
  un : Int
  open_ : List TimerM
def JobsM.cells (t : JobsM) : List Dat := [.int t.ix] ++ ([.int t.tm] ++ ([.int t.ho] ++ ([.int t.ep] ++ ([.int t.un] ++ ([djD t.open_])))))
def JobsM.sz (t : JobsM) : Nat := djSz t.open_
def JobsM.n (t : JobsM) : Nat := djN t.open_
def MarkedJobs (t : JobsM) (k : Int) : Prop := MarkedDueS t.open_ (k)
def MadeJobs (w : World) (t : JobsM) (e : Ending) (w' : World) : Prop :=
  ∃ (x0 : Int) (x1 : Int) (x2 : Int) (x3 : Int) (x4 : Int) (A5 : Option Addr) (n5 c5 : Nat), e = .returned (.agg #[.int .i64 x0, .int .i64 x1, .int .i64 x2, .int .i64 x3, .int .i64 x4, .slice A5 n5 c5]) ∧ Has w' w.heap.size t.cells [.int .i64 x0, .int .i64 x1, .int .i64 x2, .int .i64 x3, .int .i64 x4, .slice A5 n5 c5] ∧ Below w.heap.size w w'
theorem Rd.jobsT {w : World} {B : Nat} {t : JobsM} {v0 v1 v2 v3 v4 v5 : Value} (h : Rd w B t.cells [v0, v1, v2, v3, v4, v5]) : ∃ (A5 : Option Addr) (n5 c5 : Nat), v0 = .int .i64 t.ix ∧ v1 = .int .i64 t.tm ∧ v2 = .int .i64 t.ho ∧ v3 = .int .i64 t.ep ∧ v4 = .int .i64 t.un ∧ v5 = .slice A5 n5 c5 ∧ Rd w B ([djD t.open_]) [.slice A5 n5 c5] := by
  have g0 : Rd w B ([.int t.ix] ++ ([.int t.tm] ++ ([.int t.ho] ++ ([.int t.ep] ++ ([.int t.un] ++ ([djD t.open_])))))) [v0, v1, v2, v3, v4, v5] := h
  obtain ⟨p0, g1⟩ := Rd.cut (ds := [.int t.ix]) (vs := [v0]) (vs' := [v1, v2, v3, v4, v5]) g0 rfl
  obtain ⟨e0, _⟩ := Rd.int_cons p0
  obtain ⟨p1, g2⟩ := Rd.cut (ds := [.int t.tm]) (vs := [v1]) (vs' := [v2, v3, v4, v5]) g1 rfl
  obtain ⟨e1, _⟩ := Rd.int_cons p1
  obtain ⟨p2, g3⟩ := Rd.cut (ds := [.int t.ho]) (vs := [v2]) (vs' := [v3, v4, v5]) g2 rfl
  obtain ⟨e2, _⟩ := Rd.int_cons p2
  obtain ⟨p3, g4⟩ := Rd.cut (ds := [.int t.ep]) (vs := [v3]) (vs' := [v4, v5]) g3 rfl
  obtain ⟨e3, _⟩ := Rd.int_cons p3
  obtain ⟨p4, g5⟩ := Rd.cut (ds := [.int t.un]) (vs := [v4]) (vs' := [v5]) g4 rfl
  obtain ⟨e4, _⟩ := Rd.int_cons p4
  have p5 := g5
  obtain ⟨A5, n5, c5, e5, _⟩ := Rd.djs p5
  subst e0
  subst e1
  subst e2
  subst e3
  subst e4
  subst e5
  exact ⟨A5, n5, c5, rfl, rfl, rfl, rfl, rfl, rfl, p5⟩
theorem Ow.jobsT {w : World} {t : JobsM} {v0 v1 v2 v3 v4 v5 : Value} {fp : List Nat} (h : Ow w t.cells [v0, v1, v2, v3, v4, v5] fp) : ∃ f5, fp = f5 ++ ([]) ∧ Ow w ([djD t.open_]) [v5] f5 := by
  have g0 : Ow w ([.int t.ix] ++ ([.int t.tm] ++ ([.int t.ho] ++ ([.int t.ep] ++ ([.int t.un] ++ ([djD t.open_] ++ ([]))))))) [v0, v1, v2, v3, v4, v5] fp := h
  obtain ⟨_, g1⟩ := Ow.int_cons g0
  obtain ⟨_, g2⟩ := Ow.int_cons g1
  obtain ⟨_, g3⟩ := Ow.int_cons g2
  obtain ⟨_, g4⟩ := Ow.int_cons g3
  obtain ⟨_, g5⟩ := Ow.int_cons g4
  obtain ⟨f5, r5, rfl, o5, g6⟩ := Ow.cut (ds := [djD t.open_]) (vs := [v5]) (vs' := []) g5 rfl
  have gz := Ow.nil_foot g6
  subst gz
  exact ⟨f5, rfl, o5⟩
theorem jobs_n9 (t : JobsM) : t.n ≤ 9 * t.sz := by
  have h0 : djN t.open_ ≤ 9 * (djSz t.open_) := (Nat.le_trans (djN_le t.open_) (Nat.mul_le_mul_right _ (by decide)))
  show djN t.open_ ≤ 9 * (djSz t.open_)
  omega
theorem jobs_n_le (t : JobsM) (h : t.sz ≤ 1048577) : t.n ≤ 9437193 := by
  have := jobs_n9 t
  omega

end Go.Proofs.Ytgjlfambaiakbaa

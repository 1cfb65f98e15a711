/-
  Chapter 11: lists of jobs as mathematics (by program, wip/gen/genletm.py).
-/
import Derived.Test.YtepnghjmpbfmcaaLetN
import Derived.Test.YtepnghjmpbfmcaaJobs
import Derived.Test.YtepnghjmpbfmcaaTimM
namespace Go.Proofs.Ytepnghjmpbfmcaa
set_option maxRecDepth 100000
open Go.RowKit

def dueB (x : TimerM) : Bool := inB x.tid 1 20 && inB x.due 0 1000000
def openAt (l : List TimerM) (j : Nat) : Bool := dueB (l.getD j tim0) && (ordAt l j && disAt l j)
def openB (l : List TimerM) : Bool := decide (l.length ≤ 8) && (List.range l.length).all (openAt l)
def jobsOkB (j : JobsM) : Bool := inB j.ix 0 2000 && (inB j.tm 0 1000000 && ((decide (j.ho = 0) || schedB j.ho) && (inB j.ep 0 1000 && (inB j.un 0 1001000 && openB j.open_))))
theorem openB_iff (l : List TimerM) : openB l = true ↔ l.length ≤ 8 ∧ ∀ j, j < l.length → openAt l j = true := by
  unfold openB
  rw [Bool.and_eq_true, decide_eq_true_eq, range_all]
theorem openB_long {l : List TimerM} (h : 8 < l.length) : openB l = false := by
  unfold openB
  rw [decide_eq_false (by omega), Bool.false_and]
theorem openB_step {l : List TimerM} {j : Nat} (hj : j < l.length) (h : openAt l j = false) : openB l = false := by
  unfold openB
  rw [range_bad hj h, Bool.and_false]
theorem openB_end {l : List TimerM} (h : l.length ≤ 8) (h2 : ∀ j, j < l.length → openAt l j = true) : openB l = true := (openB_iff l).2 ⟨h, h2⟩
theorem openB_bad {l : List TimerM} (h : l.all dueB = false) : openB l = false := by
  rw [Bool.eq_false_iff]
  intro h9
  have h8 := ((openB_iff l).1 h9).2
  rw [Bool.eq_false_iff] at h
  refine h (List.all_eq_true.2 fun x hx => ?_)
  obtain ⟨j, hj, rfl⟩ := List.getElem_of_mem hx
  have := h8 j hj
  unfold openAt at this
  rw [tgetD hj, Bool.and_eq_true] at this
  exact this.1
theorem openB_mid {l : List TimerM} (h : l.length ≤ 8) (h2 : l.all dueB = true) : openB l = (ordB l && disB l) := by
  rw [Bool.eq_iff_iff, openB_iff, Bool.and_eq_true]
  unfold ordB disB
  rw [range_all, range_all]
  constructor
  · rintro ⟨_, h3⟩
    refine ⟨fun j hj => ?_, fun j hj => ?_⟩
    all_goals
      have := h3 j hj
      unfold openAt at this
      rw [Bool.and_eq_true, Bool.and_eq_true] at this
      first | exact this.2.1 | exact this.2.2
  · rintro ⟨h3, h4⟩
    refine ⟨h, fun j hj => ?_⟩
    unfold openAt
    rw [h3 j hj, h4 j hj, tgetD hj, List.all_eq_true.1 h2 _ (List.getElem_mem hj)]
    rfl
theorem openB_len {l : List TimerM} (h : openB l = true) : l.length ≤ 8 := ((openB_iff l).1 h).1
theorem openB_due {l : List TimerM} (h : openB l = true) {j : Nat} (hj : j < l.length) : dueB l[j] = true := by
  have := ((openB_iff l).1 h).2 j hj
  unfold openAt at this
  rw [tgetD hj, Bool.and_eq_true] at this
  exact this.1

def jobs0 : JobsM := ⟨0, 0, 0, 0, 0, []⟩
def duesNs (l : List TimerM) : List Int := l.flatMap djNs
def jobsNs (j : JobsM) : List Int := [j.ix, j.tm, j.ho, j.ep, j.un] ++ duesNs j.open_
def jobsRowM (j : JobsM) : List Int := if jobsOkB j = true then 9 :: jobsNs j else []
theorem duesNs_len (l : List TimerM) : (duesNs l).length = 2 * l.length := by
  unfold duesNs
  rw [List.length_flatMap]
  exact djN_eq l
theorem jobsOkB_iff (j : JobsM) : jobsOkB j = true ↔ (0 ≤ j.ix ∧ j.ix ≤ 2000) ∧ (0 ≤ j.tm ∧ j.tm ≤ 1000000) ∧ (j.ho = 0 ∨ schedB j.ho = true) ∧ (0 ≤ j.ep ∧ j.ep ≤ 1000) ∧ (0 ≤ j.un ∧ j.un ≤ 1001000) ∧ openB j.open_ = true := by
  unfold jobsOkB
  simp only [Bool.and_eq_true, Bool.or_eq_true, inB_iff, decide_eq_true_eq]
theorem jobsRowM_sz (j : JobsM) : (jobsRowM j).length ≤ 1048577 := by
  unfold jobsRowM
  split
  · rename_i h
    have h3 := openB_len ((jobsOkB_iff j).1 h).2.2.2.2.2
    have h4 := duesNs_len j.open_
    simp [jobsNs]
    omega
  · simp
def dueOf (d : List Int) : TimerM := ⟨d.getD 0 0, d.getD 1 0⟩
def duesFrom (d : List Int) (k : Nat) : List TimerM := (List.range k).map fun j => dueOf (d.drop (2 * j))
def ofJobs (d : List Int) : JobsM := ⟨d.getD 1 0, d.getD 2 0, d.getD 3 0, d.getD 4 0, d.getD 5 0, duesFrom (d.drop 6) ((d.length - 6) / 2)⟩
def rowJobsM (d : List Int) : JobsM × Bool := if 6 ≤ d.length ∧ d.length ≤ 22 ∧ d.length % 2 = 0 ∧ d.getD 0 0 = 9 ∧ jobsOkB (ofJobs d) = true then (ofJobs d, true) else (jobs0, false)
theorem duesFrom_len (d : List Int) (k : Nat) : (duesFrom d k).length = k := by simp [duesFrom]
theorem duesFrom_succ (d : List Int) (k : Nat) : duesFrom d (k + 1) = duesFrom d k ++ [dueOf (d.drop (2 * k))] := by
  unfold duesFrom
  rw [List.range_succ, List.map_append]
  rfl
theorem rowJobsM_sz (d : List Int) : (rowJobsM d).1.sz ≤ 1048577 := by
  unfold rowJobsM
  split
  · rename_i h
    have h3 := openB_len ((jobsOkB_iff _).1 h.2.2.2.2).2.2.2.2.2
    show djSz (ofJobs d).open_ ≤ 1048577
    unfold djSz
    omega
  · show djSz [] ≤ 1048577
    simp [djSz]

theorem jobs_rd {w : World} {B : Nat} {t : JobsM} {x0 x1 x2 x3 x4 : Int} {A : Option Addr} {n c : Nat} (h : Rd w B t.cells [.int .i64 x0, .int .i64 x1, .int .i64 x2, .int .i64 x3, .int .i64 x4, .slice A n c]) : ∃ l, t = ⟨x0, x1, x2, x3, x4, l⟩ ∧ Rd w B [djD l] [.slice A n c] := by
  obtain ⟨a0, a1, a2, a3, a4, l⟩ := t
  obtain ⟨A5, n5, c5, e0, e1, e2, e3, e4, e5, hr⟩ := h.jobsT
  injection e0 with _ q0
  injection e1 with _ q1
  injection e2 with _ q2
  injection e3 with _ q3
  injection e4 with _ q4
  injection e5 with q5 q6 q7
  subst q0 q1 q2 q3 q4 q5 q6 q7
  exact ⟨_, rfl, hr⟩

end Go.Proofs.Ytepnghjmpbfmcaa

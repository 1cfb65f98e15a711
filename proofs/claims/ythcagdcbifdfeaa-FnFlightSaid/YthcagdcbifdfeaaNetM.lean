/-
  Chapter 5: the functions of networks as mathematics.
-/
import Derived.Test.YthcagdcbifdfeaaNetB
import Derived.Test.YthcagdcbifdfeaaGen2
import Derived.RegionTactic
import Derived.BigQuiet
namespace Go.Proofs.Ythcagdcbifdfeaa
set_option maxRecDepth 100000
open Go.RowKit

def link0 : LinkM := ⟨0, 0⟩
def linkB (x : LinkM) : Bool := nodeB x.a && (nodeB x.b && decide (x.a < x.b))
/-- The link at j is one, and lies behind the one before it. -/
def cutAt (c : List LinkM) (j : Nat) : Bool := linkB (c.getD j link0) && (decide (j = 0) || linkLess (c.getD (j - 1) link0) (c.getD j link0))
def cutsB (c : List LinkM) : Bool := (List.range c.length).all (cutAt c)
def netOk (t : NetM) : Bool := decide (t.flight.length ≤ 60) && (decide (t.cuts.length ≤ 15) && (t.flight.all msgOk && cutsB t.cuts))
theorem netOk_long {t : NetM} (h : 60 < t.flight.length ∨ 15 < t.cuts.length) : netOk t = false := by
  unfold netOk
  rcases h with h | h
  · rw [decide_eq_false (by omega), Bool.false_and]
  · rw [decide_eq_false (show ¬ t.cuts.length ≤ 15 by omega), Bool.false_and, Bool.and_false]
theorem netOk_msg {t : NetM} (h : t.flight.all msgOk = false) : netOk t = false := by
  unfold netOk
  rw [h, Bool.false_and, Bool.and_false, Bool.and_false]
theorem netOk_cut {t : NetM} (h : cutsB t.cuts = false) : netOk t = false := by
  unfold netOk
  rw [h, Bool.and_false, Bool.and_false, Bool.and_false]
theorem netOk_yes {t : NetM} (h1 : t.flight.length ≤ 60) (h2 : t.cuts.length ≤ 15) (h3 : t.flight.all msgOk = true) (h4 : cutsB t.cuts = true) : netOk t = true := by
  unfold netOk
  rw [h3, h4, decide_eq_true h1, decide_eq_true h2]
  rfl
theorem netOk_spec {t : NetM} (h : netOk t = true) : t.flight.length ≤ 60 ∧ t.cuts.length ≤ 15 ∧ t.flight.all msgOk = true ∧ cutsB t.cuts = true := by
  unfold netOk at h
  simp only [Bool.and_eq_true, decide_eq_true_eq] at h
  exact ⟨h.1, h.2.1, h.2.2.1, h.2.2.2⟩
theorem cutsB_bad {c : List LinkM} {j : Nat} (hj : j < c.length) (h : cutAt c j = false) : cutsB c = false := by
  unfold cutsB
  exact all_less (l := List.range c.length) (j := j) (by simpa using hj) (by simpa using h)
theorem cutsB_end {c : List LinkM} (h : ∀ j, j < c.length → cutAt c j = true) : cutsB c = true := by
  unfold cutsB
  rw [List.all_eq_true]
  intro j hj
  exact h j (by simpa using hj)
theorem cutsB_at {c : List LinkM} (h : cutsB c = true) {j : Nat} (hj : j < c.length) : cutAt c j = true := by
  unfold cutsB at h
  rw [List.all_eq_true] at h
  exact h j (by simpa using hj)
theorem getD_at {c : List LinkM} {j : Nat} (hj : j < c.length) : c.getD j link0 = c[j] := by simp [List.getD, List.getElem?_eq_getElem hj]

def linkEq (x y : LinkM) : Bool := x.a == y.a && x.b == y.b
theorem linkEq_iff (x y : LinkM) : linkEq x y = true ↔ x = y := by
  obtain ⟨a, b⟩ := x
  obtain ⟨c, d⟩ := y
  simp [linkEq]
theorem linkEq_refl (x : LinkM) : linkEq x x = true := (linkEq_iff x x).2 rfl

def eqIx (c : List LinkM) (l : LinkM) : Nat := firstNot (fun x => !linkEq x l) c
def lowN (c : List LinkM) (l : LinkM) : Nat := firstNot (fun x => linkLess x l) c
def isCut (c : List LinkM) (l : LinkM) : Bool := decide (eqIx c l < c.length)
def specAt (c : List LinkM) (l : LinkM) : Int := if eqIx c l < c.length then (eqIx c l : Int) else -1
def isAt (c : List LinkM) (l : LinkM) : Bool := decide (lowN c l < c.length) && linkEq (c.getD (lowN c l) link0) l

theorem linkLess_trans {x y z : LinkM} (h : linkLess x y = true) (h' : linkLess y z = true) : linkLess x z = true := by
  simp only [linkLess, Bool.or_eq_true, Bool.and_eq_true, decide_eq_true_eq, beq_iff_eq] at *
  omega
theorem linkLess_irrefl (x : LinkM) : linkLess x x = false := by
  rw [Bool.eq_false_iff]
  intro h
  simp only [linkLess, Bool.or_eq_true, Bool.and_eq_true, decide_eq_true_eq, beq_iff_eq] at h
  omega
theorem cutsB_less {c : List LinkM} (h : cutsB c = true) : ∀ (k i : Nat) (hk : k < c.length) (hi : i < k), linkLess (c[i]'(by omega)) c[k] = true := by
  have step : ∀ k (hk : k + 1 < c.length), linkLess (c[k]'(by omega)) c[k + 1] = true := fun k hk => by
    have h1 := cutsB_at h hk
    unfold cutAt at h1
    simp only [Bool.and_eq_true, Bool.or_eq_true, decide_eq_true_eq] at h1
    rcases h1.2 with h2 | h2
    · omega
    · rw [Nat.add_sub_cancel, getD_at (by omega), getD_at hk] at h2
      exact h2
  intro k
  induction k with
  | zero => intro i _ hi; omega
  | succ k ih =>
    intro i hk hi
    by_cases e : i = k
    · subst e
      exact step i hk
    · exact linkLess_trans (ih i (by omega) (by omega)) (step k hk)
/-- Among sorted links the two ways of looking agree. -/
theorem eqIx_low {c : List LinkM} (h : cutsB c = true) {l : LinkM} (hl : eqIx c l < c.length) : lowN c l = eqIx c l := by
  have h1 : (!linkEq c[eqIx c l] l) = false := firstNot_at (fun x => !linkEq x l) c hl
  have h2 : c[eqIx c l] = l := (linkEq_iff _ _).1 (by simpa using h1)
  refine firstNot_eq _ c (eqIx c l) (Nat.le_of_lt hl) (fun i hi hlt => ?_) (fun hj => ?_)
  · have := cutsB_less h (eqIx c l) i hl hlt
    rw [h2] at this
    exact this
  · show linkLess c[eqIx c l] l = false
    rw [h2]
    exact linkLess_irrefl l
theorem isAt_eq {c : List LinkM} (h : cutsB c = true) (l : LinkM) : isAt c l = isCut c l := by
  rw [Bool.eq_iff_iff]
  unfold isAt isCut
  simp only [Bool.and_eq_true, decide_eq_true_eq]
  constructor
  · rintro ⟨h1, h2⟩
    rw [getD_at h1] at h2
    rcases Nat.lt_or_ge (eqIx c l) c.length with h3 | h3
    · exact h3
    · have h4 := firstNot_before (fun x => !linkEq x l) c (lowN c l) h1 (Nat.lt_of_lt_of_le h1 h3)
      rw [h2] at h4
      cases h4
  · intro h1
    have e := eqIx_low h h1
    rw [e]
    refine ⟨h1, ?_⟩
    rw [getD_at h1]
    have h2 : (!linkEq c[eqIx c l] l) = false := firstNot_at (fun x => !linkEq x l) c h1
    simpa using h2

end Go.Proofs.Ythcagdcbifdfeaa

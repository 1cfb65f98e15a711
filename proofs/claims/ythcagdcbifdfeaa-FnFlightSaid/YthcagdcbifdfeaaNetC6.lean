/-
  Chapter 5: SameNet, of the model and of the program (by program, wip/gen/gennete.py).
-/
import Derived.Test.YthcagdcbifdfeaaNetM
import Derived.Test.YthcagdcbifdfeaaCls
import Derived.RegionTactic
import Derived.BigQuiet
namespace Go.Proofs.Ythcagdcbifdfeaa
set_option maxRecDepth 100000
open Go.RowKit

/-- Element by element equal. -/
def allEq {α : Type} (p : α → α → Bool) : List α → List α → Bool
  | [], [] => true
  | x :: xs, y :: ys => p x y && allEq p xs ys
  | _, _ => false
theorem allEq_len {α : Type} {p : α → α → Bool} : ∀ {l m : List α}, l.length ≠ m.length → allEq p l m = false
  | [], [], h => absurd rfl h
  | [], _ :: _, _ => rfl
  | _ :: _, [], _ => rfl
  | x :: xs, y :: ys, h => by
    unfold allEq
    rw [allEq_len (l := xs) (m := ys) (by simpa using h), Bool.and_false]
theorem allEq_bad {α : Type} {p : α → α → Bool} : ∀ {l m : List α} {j : Nat} (hj : j < l.length) (hj' : j < m.length), p l[j] m[j] = false → allEq p l m = false
  | [], _, j, hj, _, _ => by simp at hj
  | _ :: _, [], j, _, hj', _ => by simp at hj'
  | x :: xs, y :: ys, 0, _, _, h => by
    unfold allEq
    simp only [List.getElem_cons_zero] at h
    rw [h, Bool.false_and]
  | x :: xs, y :: ys, j + 1, hj, hj', h => by
    unfold allEq
    rw [allEq_bad (l := xs) (m := ys) (j := j) (by simpa using hj) (by simpa using hj') h, Bool.and_false]
theorem allEq_end {α : Type} {p : α → α → Bool} : ∀ {l m : List α} (hl : l.length = m.length), (∀ j (hj : j < l.length), p l[j] (m[j]'(hl ▸ hj)) = true) → allEq p l m = true
  | [], [], _, _ => rfl
  | x :: xs, y :: ys, hl, h => by
    unfold allEq
    have h0 := h 0 (by simp)
    simp only [List.getElem_cons_zero] at h0
    rw [h0, Bool.true_and]
    exact allEq_end (by simpa using hl) fun j hj => h (j + 1) (by simpa using hj)
def sameNet (a b : NetM) : Bool := allEq sameMsg a.flight b.flight && allEq linkEq a.cuts b.cuts

end Go.Proofs.Ythcagdcbifdfeaa

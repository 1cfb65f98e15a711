/-
  Lists: all, and the first place at which a property does not hold.
-/
import Derived.Test.YthjjdelpdiipdaaKA
namespace Go.Proofs.Ythjjdelpdiipdaa
set_option maxRecDepth 100000
open Go.RowKit

theorem all_more {α : Type} {p : α → Bool} {l : List α} {j : Nat} (hj : j < l.length) (h : (l.take j).all p = true) (hp : p l[j] = true) : (l.take (j + 1)).all p = true := by
  rw [List.take_succ_eq_append_getElem hj, List.all_append, h]
  simp [hp]
theorem all_less {α : Type} {p : α → Bool} {l : List α} {j : Nat} (hj : j < l.length) (hp : p l[j] = false) : l.all p = false := by
  rw [Bool.eq_false_iff]
  intro h
  have := List.all_eq_true.1 h l[j] (List.getElem_mem hj)
  rw [hp] at this
  cases this

/-- The first place at which p does not hold. -/
def firstNot {α : Type} (p : α → Bool) : List α → Nat
  | [] => 0
  | x :: xs => if p x = true then firstNot p xs + 1 else 0
theorem firstNot_le {α : Type} (p : α → Bool) : ∀ l : List α, firstNot p l ≤ l.length
  | [] => Nat.le_refl _
  | x :: xs => by
    have := firstNot_le p xs
    unfold firstNot
    split <;> simp <;> omega
theorem firstNot_eq {α : Type} (p : α → Bool) : ∀ (l : List α) (j : Nat), j ≤ l.length → (∀ i (hi : i < l.length), i < j → p l[i] = true) → (∀ hj : j < l.length, p l[j] = false) → firstNot p l = j
  | [], j, hj, _, _ => by
    have : j = 0 := by simpa using hj
    subst this
    rfl
  | x :: xs, 0, _, _, h2 => by
    have := h2 (by simp)
    simp only [List.getElem_cons_zero] at this
    unfold firstNot
    rw [this]
    rfl
  | x :: xs, j + 1, hj, h1, h2 => by
    have hx := h1 0 (by simp) (by omega)
    simp only [List.getElem_cons_zero] at hx
    unfold firstNot
    rw [if_pos hx, firstNot_eq p xs j (by simpa using hj) (fun i hi hlt => h1 (i + 1) (by simpa using hi) (by omega)) (fun h => h2 (by simpa using h))]
theorem firstNot_before {α : Type} (p : α → Bool) : ∀ (l : List α) (i : Nat) (hi : i < l.length), i < firstNot p l → p l[i] = true
  | [], i, hi, _ => by simp at hi
  | x :: xs, 0, _, h => by
    unfold firstNot at h
    split at h
    · simpa using ‹p x = true›
    · omega
  | x :: xs, i + 1, hi, h => by
    unfold firstNot at h
    split at h
    · simpa using firstNot_before p xs i (by simpa using hi) (by omega)
    · omega
theorem firstNot_at {α : Type} (p : α → Bool) : ∀ (l : List α) (h : firstNot p l < l.length), p l[firstNot p l] = false
  | [], h => by simp [firstNot] at h
  | x :: xs, h => by
    by_cases hx : p x = true
    · have e : firstNot p (x :: xs) = firstNot p xs + 1 := by simp [firstNot, hx]
      have h' : firstNot p xs < xs.length := by rw [e] at h; simpa using h
      have := firstNot_at p xs h'
      simpa [e] using this
    · have e : firstNot p (x :: xs) = 0 := by simp [firstNot, hx]
      simpa [e] using hx

end Go.Proofs.Ythjjdelpdiipdaa

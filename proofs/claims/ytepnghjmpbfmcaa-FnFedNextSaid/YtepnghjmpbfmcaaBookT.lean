/-
  An own slice of entries shortened; the piece that it was is the piece that it becomes.
-/
import Derived.Test.YtepnghjmpbfmcaaBookM
import Derived.Test.YtepnghjmpbfmcaaParts
namespace Go.Proofs.Ytepnghjmpbfmcaa
set_option maxRecDepth 100000
open Go.RowKit

theorem Sep.head_own {w : World} {base : Nat} {is : List Item} {ds ds' : List Dat} {vs vs' : List Value} {fp : List Nat} (h : Sep w base (.own ds vs fp :: is)) (ho : Ow w ds' vs' fp) : Sep w base (.own ds' vs' fp :: is) := by
  refine ⟨fun n i hi => ?_, h.nodup, h.ge⟩
  cases n with
  | zero => simp at hi; subst hi; exact ho
  | succ n => exact h.holds (n + 1) i (by simpa using hi)
theorem Ow.ints_foot {w : World} : ∀ {xs : List Int} {us : List Value} {fp : List Nat}, Ow w (xs.flatMap fun y => [Dat.int y]) us fp → fp = []
  | [], _, _, h => by
    have h' : Ow w [] _ _ := h
    cases h'
    rfl
  | x :: xs, us, fp, h => by
    have h' : Ow w (.int x :: xs.flatMap fun y => [Dat.int y]) us fp := h
    cases h' with
    | int h => exact Ow.ints_foot h
theorem Ow.shorter {w : World} {l : List EntM} {A : Option Addr} {n c i : Nat} {fp : List Nat} (h : Ow w [entD l] [.slice A n c] fp) (hi : i ≤ n) : Ow w [entD (l.take i)] [.slice A i c] fp := by
  obtain ⟨us, fp1, h1, h2, rfl⟩ := Ow.lst (k := 9) entC_len (by decide) h
  have hf : fp1 = [] := by
    rw [flat_flat (f := entC) (g := entNs) (fun _ => rfl)] at h2
    exact Ow.ints_foot h2
  subst hf
  have hn : l.length = n := by
    obtain ⟨_, _, _, e, hl, _⟩ := h.rd.ents
    injection e with e1 e2 e3
    rw [hl, e2]
  have e1 : l.flatMap entC = (l.take i).flatMap entC ++ (l.drop i).flatMap entC := by rw [← List.flatMap_append, List.take_append_drop]
  rw [e1] at h2
  obtain ⟨u1, u2, f1, f2, rfl, hff, r1, _⟩ := h2.split
  have hf1 : f1 = [] := (List.append_eq_nil_iff.1 hff.symm).1
  subst hf1
  have l1 : u1.length = i * 9 := by rw [r1.len, flatMap_len entC_len, List.length_take, Nat.min_eq_left (by omega)]
  have eb : (Value.slice A n c).ownBlock = (Value.slice A i c).ownBlock := by cases A <;> rfl
  rw [eb]
  refine Ow.of_lst (n := i) ⟨l1, ?_⟩ r1
  rcases h1.2 with ⟨hv, h0⟩ | ⟨g, cap, cur, hv, hb, hg, hnc, hcm, hs, ht⟩
  · left
    injection hv with e1 e2 e3
    refine ⟨by rw [e1, e3, show i = 0 by omega], by omega⟩
  · right
    injection hv with e1 e2 e3
    subst e1 e3
    refine ⟨g, c, cur, rfl, hb, hg, by omega, hcm, hs, ?_⟩
    have h8 := congrArg (List.take (i * 9)) ht
    rw [List.take_take, Nat.min_eq_left (Nat.mul_le_mul_right 9 (show i ≤ l.length by omega)), List.take_append_of_le_length (Nat.le_of_eq l1.symm), List.take_of_length_le (Nat.le_of_eq l1)] at h8
    exact h8
theorem own_addr {w : World} {l : List EntM} {A : Option Addr} {n c : Nat} {fp : List Nat} (h : Ow w [entD l] [.slice A n c] fp) : (A = none ∧ n = 0 ∧ c = 0) ∨ ∃ g, A = some ⟨g, 0, none⟩ := by
  obtain ⟨us, fp1, h1, _, _⟩ := Ow.lst (k := 9) entC_len (by decide) h
  rcases h1.2 with ⟨hv, _⟩ | ⟨g, cap, cur, hv, _⟩
  · injection hv with e1 e2 e3
    exact .inl ⟨e1, e2, e3⟩
  · injection hv with e1 e2 e3
    exact .inr ⟨g, e1⟩

end Go.Proofs.Ytepnghjmpbfmcaa

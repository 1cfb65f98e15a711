/-
  An own slice of flat elements cut short at its end: it is an own slice still, in the same block.
-/
import Derived.Test.YthcagdcbifdfeaaMove
import Derived.Test.YthcagdcbifdfeaaParts
namespace Go.Proofs.Ythcagdcbifdfeaa
set_option maxRecDepth 100000
open Go.RowKit

section
variable {α : Type} {w : World} {e : TypeId} {k : Nat} {f : α → List Dat} {g : α → List Int} {l : List α}
theorem Ow.front_flat (hf : ∀ x, f x = (g x).flatMap fun y => [Dat.int y]) (hk : ∀ x, (f x).length = k) (k0 : 0 < k) {A : Option Addr} {n c i : Nat} {fp : List Nat}
    (h : Ow w [Go.Proofs.Ythcagdcbifdfeaa.lst e k f l] [.slice A n c] fp) (hi : i ≤ n) : Ow w [Go.Proofs.Ythcagdcbifdfeaa.lst e k f (l.take i)] [.slice A i c] fp := by
  obtain ⟨us, fp1, h1, h2, rfl⟩ := h.lst hk k0
  rw [flat_flat hf] at h2
  obtain ⟨rfl, rfl⟩ := ow_ints h2
  have hkg : ∀ x, (g x).length = k := fun x => by
    have h1 := hk x
    have h2 : ∀ q : List Int, (q.flatMap fun y => [Dat.int y]).length = q.length := fun q => by
      induction q with
      | nil => rfl
      | cons x q ih => rw [List.flatMap_cons, List.length_append, ih, List.length_cons, Nat.add_comm]; rfl
    rw [hf x, h2] at h1
    exact h1
  have h0 := h1.2
  rcases h0 with ⟨hv, h0⟩ | ⟨q, cap, cur, hv, hb, hc, hn, hm, hz, ht⟩
  · injection hv with a1 a2 a3
    subst a1 a2 a3
    obtain rfl : i = 0 := by omega
    rw [List.take_zero]
    exact Ow.of_lst (n := 0) (World.ownsRow_nil w 0 _ _) .nil
  · injection hv with a1 a2 a3
    subst a1 a3
    have hin : i ≤ l.length := by rw [← a2]; exact hi
    have e1 : ivals ((l.take i).flatMap g) = (ivals (l.flatMap g)).take (i * k) := by
      have e2 : l.flatMap g = (l.take i).flatMap g ++ (l.drop i).flatMap g := by rw [← List.flatMap_append, List.take_append_drop]
      have e3 : (ivals ((l.take i).flatMap g)).length = i * k := by
        unfold ivals
        rw [List.length_map, List.length_flatMap]
        simp only [hkg]
        rw [List.map_const', List.sum_replicate_nat, List.length_take, Nat.min_eq_left hin]
      unfold ivals at e3 ⊢
      have e4 := (congrArg (List.map (Value.int .i64)) e2).trans List.map_append
      rw [e4]
      exact (List.take_left' e3).symm
    have hle : i * k ≤ l.length * k := Nat.mul_le_mul_right k hin
    refine Ow.of_lst (n := i) (us := ivals ((l.take i).flatMap g)) (fp1 := []) ⟨?_, .inr ⟨q, c, cur, rfl, hb, hc, by omega, hm, hz, ?_⟩⟩ (ow_flat hf w _)
    · rw [e1, List.length_take, h1.1]
      exact Nat.min_eq_left hle
    · rw [e1, ← ht, List.take_take, Nat.min_eq_left hle]
theorem Sep.frontO {base : Nat} {is : List Item} (hf : ∀ x, f x = (g x).flatMap fun y => [Dat.int y]) (hk : ∀ x, (f x).length = k) (k0 : 0 < k) {A : Option Addr} {n c : Nat} {fp : List Nat}
    (h : Sep w base (.own [lst e k f l] [.slice A n c] fp :: is)) (i : Nat) (hi : i ≤ n) : Sep w base (.own [lst e k f (l.take i)] [.slice A i c] fp :: is) :=
  ⟨fun m it hm => by
    cases m with
    | zero => injection hm with hm; subst hm; exact (h.own_ 0 rfl).front_flat hf hk k0 hi
    | succ m => exact h.holds (m + 1) it hm, h.nodup, h.ge⟩
/-- What an own slice reads as, its back. -/
theorem back_src (hf : ∀ x, f x = (g x).flatMap fun y => [Dat.int y]) (hk : ∀ x, (f x).length = k) (k0 : 0 < k) {B : Nat} {A : Option Addr} {n c i : Nat} (h : Rd w B [Go.Proofs.Ythcagdcbifdfeaa.lst e k f l] [.slice A n c]) (hi : i ≤ n) (hnc : n ≤ c) (hm : c ≤ maxLen) :
    Src w (if c = i then A else A.map (·.add (i * k))) (n - i) k (ivals ((l.drop i).flatMap g)) ∧ (l.drop i).length = n - i := by
  refine (Rd.back (c' := c - i) hk k0 h hi (fun b off e hl => ?_) (by omega) (by omega)).src hf hk k0
  rw [if_neg (by omega), e]
  show some (Addr.add _ _) = _
  unfold Addr.add
  split
  · rename_i h0
    rw [h0]
    rfl
  · rfl
end
end Go.Proofs.Ythcagdcbifdfeaa

/-
  Rows of numbers in the form that the exact laws' walks share with all other data: copied, compared, marked and looked at.
-/
import Derived.Test.YtejcpoidoekleaaRepI
import Derived.Test.YtejcpoidoekleaaTo
import Derived.Test.YtejcpoidoekleaaEq
namespace Go.Proofs.Ytejcpoidoekleaa
set_option maxRecDepth 100000
open Go.RowKit

def rowCells (xs : List Int) : List Dat := [rowD xs]
def MadeI (w : World) (xs : List Int) (e : Ending) (w' : World) : Prop :=
  ∃ A n c, e = .returned (.slice A n c) ∧ Has w' w.heap.size (rowCells xs) [.slice A n c] ∧ Below w.heap.size w w'
def MarkedI (xs : List Int) (k : Int) : Prop := xs = upFrom k xs.length

theorem toI_made (A : Option Addr) (n c : Nat) (xs : List Int) (w : World) (h : Rd w w.heap.size (rowCells xs) [.slice A n c]) (hs : xs.length ≤ 1048576) : Calls Try.prog 37 #[.slice A n c] w (MadeI w xs) := by
  obtain ⟨_, _, _, e, hi, _⟩ := h.irow
  injection e with e1 e2 e3
  subst e1 e2 e3
  refine (to_any A n c xs w hi (by rw [← hi.1]; exact hs)).mono ?_
  rintro e w1 ⟨rfl, o, b⟩
  exact ⟨_, n, n, rfl, o.has, b⟩

theorem eqI_yes (A A' : Option Addr) (n n' c c' B B' : Nat) (xs : List Int) (w : World) (h : Rd w B (rowCells xs) [.slice A n c]) (h' : Rd w B' (rowCells xs) [.slice A' n' c']) (hs : xs.length ≤ 1048577) :
    Calls Try.prog 38 #[.slice A n c, .slice A' n' c'] w fun e w' => e = .returned (.bool true) ∧ Below w.heap.size w w' := by
  obtain ⟨_, _, _, e, hi, _⟩ := h.irow
  injection e with e1 e2 e3
  subst e1 e2 e3
  obtain ⟨_, _, _, e, hi', _⟩ := h'.irow
  injection e with e1 e2 e3
  subst e1 e2 e3
  obtain rfl : n = n' := by rw [← hi.1, hi'.1]
  refine (eq_yes A A' n c c' _ _ xs w hi hi' (by rw [← hi.1]; exact hs)).mono ?_
  rintro e w1 ⟨rfl, d⟩
  exact ⟨rfl, d.below _⟩

theorem markI_any (A : Option Addr) (n c : Nat) (xs : List Int) (fp : List Nat) (w : World) (o : Ow w (rowCells xs) [.slice A n c] fp) (_hnd : fp.Nodup) (hs : xs.length ≤ 1048577) (k : Int) (k0 : 0 ≤ k) (k1 : k ≤ 100000000000) :
    Calls Try.prog 39 #[.slice A n c, .int .i64 k] w fun e w' => ∃ xs', e = .returned (.int .i64 (k + (xs.length : Int))) ∧ Ow w' (rowCells xs') [.slice A n c] fp ∧ Touch fp w w' ∧ MarkedI xs' k ∧ xs'.length = xs.length ∧ xs'.length = xs.length := by
  obtain ⟨_, _, _, e, o1, rfl⟩ := Ow.own o
  injection e with e1 e2 e3
  subst e1 e2 e3
  have hl := o1.len
  refine (mark_any A n c 0 xs w o1 (by omega) k k0 (by omega)).mono ?_
  rintro e w1 ⟨rfl, o2, g⟩
  exact ⟨upFrom k n, by rw [hl], o2.ow, Touch.of_grown g (fun p hp => by rw [hp]; simp), by unfold MarkedI; rw [upFrom_length], by rw [upFrom_length, hl], by rw [upFrom_length, hl]⟩

theorem heldI_any (A : Option Addr) (n c : Nat) (xs : List Int) (B : Nat) (w : World) (h : Rd w B (rowCells xs) [.slice A n c]) (hs : xs.length ≤ 1048577) (k : Int) (k0 : 0 ≤ k) (k1 : k ≤ 100000000000) (hm : MarkedI xs k) :
    Calls Try.prog 84 #[.slice A n c, .int .i64 k] w fun e w' => e = .returned (.int .i64 (k + (xs.length : Int))) ∧ Below w.heap.size w w' := by
  obtain ⟨_, _, _, e, hi, _⟩ := h.irow
  injection e with e1 e2 e3
  subst e1 e2 e3
  have hl := hi.1
  have hi2 : IRow w B A n (upFrom k n) := by
    have e : xs = upFrom k n := by rw [← hl]; exact hm
    rw [← e]
    exact hi
  refine (held_any A n c B w k hi2 (by omega) k0 (by omega)).mono ?_
  rintro e w1 ⟨rfl, rfl⟩
  exact ⟨by rw [hl], Below.refl _ _⟩

end Go.Proofs.Ytejcpoidoekleaa

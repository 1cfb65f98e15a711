/-
  Chapter 5: Lost, of the model (by program, wip/gen/gennetg.py).
-/
import Derived.Test.YthcagdcbifdfeaaNetD4
import Derived.Test.YthcagdcbifdfeaaNetC3
import Derived.RegionTactic
import Derived.BigQuiet
namespace Go.Proofs.Ythcagdcbifdfeaa
set_option maxRecDepth 100000
open Go.RowKit

theorem ow_nilL {α : Type} {e : TypeId} {k : Nat} {f : α → List Dat} (w : World) : Ow w [lst e k f []] [.slice none 0 0] [] := Ow.row (n := 0) (us := []) (fp1 := []) (fp2 := []) (World.ownsRow_nil w 0 _ _) .nil .nil
def zeroN : NetM := ⟨[], []⟩
theorem has_zeroN (w : World) (base : Nat) : Has w base zeroN.cells [.slice none 0 0, .slice none 0 0] := ⟨[], (ow_nilL w).append (ow_nilL w), List.nodup_nil, fun p hp => by cases hp⟩
def MadeNB (w : World) (r : NetM × Bool) (e : Ending) (w' : World) : Prop :=
  ∃ (A0 : Option Addr) (n0 c0 : Nat) (A1 : Option Addr) (n1 c1 : Nat), e = .returned (.tuple #[.agg #[.slice A0 n0 c0, .slice A1 n1 c1], .bool r.2]) ∧ Has w' w.heap.size r.1.cells [.slice A0 n0 c0, .slice A1 n1 c1] ∧ Below w.heap.size w w'
def lostM (t : NetM) (x : Int) : NetM × Bool := if netOk t = true then (if thereB t.flight.length x = true then (withoutM t x.toNat, true) else (t, false)) else (zeroN, false)
theorem there_nat {n : Nat} {x : Int} (h : thereB n x = true) : ∃ k : Nat, x = (k : Int) ∧ k < n := by
  simp only [thereB, Bool.and_eq_true, decide_eq_true_eq] at h
  exact ⟨x.toNat, by omega, by omega⟩
theorem withoutM_sz (t : NetM) (k : Nat) : (withoutM t k).sz ≤ t.sz := by
  have h1 : (t.flight.eraseIdx k).Sublist t.flight := List.eraseIdx_sublist ..
  have h2 : ((t.flight.eraseIdx k).map msgRowSz).sum ≤ (t.flight.map msgRowSz).sum := by
    generalize t.flight.eraseIdx k = l at *
    generalize t.flight = m at *
    induction h1 with
    | slnil => exact Nat.le_refl _
    | cons a _ ih => simp only [List.map_cons, List.sum_cons]; omega
    | cons_cons a _ ih => simp only [List.map_cons, List.sum_cons]; omega
  have h3 := h1.length_le
  unfold NetM.sz withoutM msgSz linkSz
  simp only
  omega
theorem lostM_sz (t : NetM) (x : Int) (h : t.sz ≤ 1048576) : (lostM t x).1.sz ≤ 1048577 := by
  unfold lostM
  split
  · split
    · have := withoutM_sz t x.toNat
      simp only
      omega
    · simp only
      omega
  · decide

end Go.Proofs.Ythcagdcbifdfeaa

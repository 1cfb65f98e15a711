/-
  Chapter 5: Handed, of the model (by program, wip/gen/gennetk.py).
-/
import Derived.Test.YthcagdcbifdfeaaNetE1
import Derived.Test.YthcagdcbifdfeaaNetC2
import Derived.Test.YthcagdcbifdfeaaNetC5
import Derived.Test.YthcagdcbifdfeaaNetC7
import Derived.RegionTactic
import Derived.BigQuiet
namespace Go.Proofs.Ythcagdcbifdfeaa
set_option maxRecDepth 100000
open Go.RowKit

def handedM (t : NetM) (x : Int) : NetM × MsgM × Bool :=
  if netOk t = true then (if thereB t.flight.length x = true then
    (if isCut t.cuts (linkOf (t.flight.getD x.toNat msg0).frm (t.flight.getD x.toNat msg0).dest) = true then (withoutM t x.toNat, msg0, false) else (withoutM t x.toNat, t.flight.getD x.toNat msg0, true)) else (t, msg0, false)) else (zeroN, msg0, false)
def MadeNMB (w : World) (r : NetM × MsgM × Bool) (e : Ending) (w' : World) : Prop :=
  ∃ (A0 : Option Addr) (n0 c0 : Nat) (A1 : Option Addr) (n1 c1 : Nat) (x0 x1 : Int) (A2 : Option Addr) (n2 c2 : Nat), e = .returned (.tuple #[.agg #[.slice A0 n0 c0, .slice A1 n1 c1], .agg #[.int .i64 x0, .int .i64 x1, .slice A2 n2 c2], .bool r.2.2]) ∧ Has w' w.heap.size (r.1.cells ++ r.2.1.cells) [.slice A0 n0 c0, .slice A1 n1 c1, .int .i64 x0, .int .i64 x1, .slice A2 n2 c2] ∧ Below w.heap.size w w'
theorem has_msg0 {w : World} {base : Nat} {ds : List Dat} {vs : List Value} (h : Has w base ds vs) : Has w base (ds ++ msg0.cells) (vs ++ [.int .i64 0, .int .i64 0, .slice none 0 0]) := by
  obtain ⟨fp, o, nd, ge⟩ := h
  exact ⟨fp ++ [], o.append (ow_zero_msg w), by simpa using nd, by simpa using ge⟩
theorem handedM_sz0 (t : NetM) (x : Int) (h : t.sz ≤ 1048576) : (handedM t x).1.sz ≤ 1048577 := by
  have h1 := withoutM_sz t x.toNat
  unfold handedM
  split
  · split
    · split
      · simp only; omega
      · simp only; omega
    · simp only; omega
  · decide
theorem handedM_sz1 (t : NetM) (x : Int) (h : t.sz ≤ 1048576) : (handedM t x).2.1.sz ≤ 1048577 := by
  have hz : msg0.sz ≤ 1048577 := by decide
  unfold handedM
  split
  · split
    · split
      · exact hz
      · simp only
        rcases Nat.lt_or_ge x.toNat t.flight.length with h1 | h1
        · have h2 := pre_at (g := msgRowSz) h1
          have h3 : (t.flight.getD x.toNat msg0) = t.flight[x.toNat] := by simp [List.getD, List.getElem?_eq_getElem h1]
          rw [h3]
          have h4 : (t.flight[x.toNat]).sz = msgRowSz t.flight[x.toNat] := rfl
          unfold NetM.sz msgSz at h
          omega
        · have h3 : (t.flight.getD x.toNat msg0) = msg0 := by simp [List.getD, List.getElem?_eq_none h1]
          rw [h3]
          exact hz
    · exact hz
  · exact hz
theorem specAt_ge (c : List LinkM) (l : LinkM) : decide (0 ≤ specAt c l) = isCut c l := by
  unfold specAt isCut
  by_cases h : eqIx c l < c.length
  · rw [if_pos h, decide_eq_true h, decide_eq_true (by omega)]
  · rw [if_neg h, decide_eq_false h]
    rfl
theorem passes_at {t : NetM} {k : Nat} (h : netOk t = true) (hk : k < t.flight.length) : passesIn t t.flight[k].frm t.flight[k].dest = !isCut t.cuts (linkOf t.flight[k].frm t.flight[k].dest) := by
  have h1 := List.all_eq_true.1 (netOk_spec h).2.2.1 _ (List.getElem_mem hk)
  unfold passesIn
  unfold msgOk at h1
  rw [Bool.and_eq_true] at h1
  rw [h, h1.1, Bool.true_and, Bool.true_and]

end Go.Proofs.Ythcagdcbifdfeaa

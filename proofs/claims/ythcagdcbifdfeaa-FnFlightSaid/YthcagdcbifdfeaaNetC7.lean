/-
  Chapter 5: LettersTo, of the model and of the program (by program, wip/gen/gennetl.py).
-/
import Derived.Test.YthcagdcbifdfeaaNetC1
import Derived.Test.YthcagdcbifdfeaaNetC3
import Derived.Test.YthcagdcbifdfeaaCls
import Derived.RegionTactic
import Derived.BigQuiet
namespace Go.Proofs.Ythcagdcbifdfeaa
set_option maxRecDepth 100000
open Go.RowKit

def msg0 : MsgM := ⟨0, 0, []⟩
def letN (l : List MsgM) (node : Int) (j : Nat) : List Int := ((List.range j).filter fun i => decide ((l.getD i msg0).dest = node)).map fun (i : Nat) => (i : Int)
def lettersM (t : NetM) (node : Int) : List Int := if netOk t = true then letN t.flight node t.flight.length else []
theorem letN_yes {l : List MsgM} {node : Int} {j : Nat} (hj : j < l.length) (h : l[j].dest = node) : letN l node (j + 1) = letN l node j ++ [(j : Int)] := by
  unfold letN
  rw [List.range_succ, List.filter_append, List.map_append]
  have e : l[j]?.getD msg0 = l[j] := by rw [List.getElem?_eq_getElem hj]; rfl
  simp [e, h]
theorem letN_no {l : List MsgM} {node : Int} {j : Nat} (hj : j < l.length) (h : ¬ l[j].dest = node) : letN l node (j + 1) = letN l node j := by
  unfold letN
  rw [List.range_succ, List.filter_append, List.map_append]
  have e : l[j]?.getD msg0 = l[j] := by rw [List.getElem?_eq_getElem hj]; rfl
  simp [e, h]
theorem letN_len (l : List MsgM) (node : Int) (j : Nat) : (letN l node j).length ≤ j := by
  unfold letN
  rw [List.length_map]
  exact Nat.le_trans (List.length_filter_le _ _) (by simp)
theorem lettersM_sz (t : NetM) (node : Int) (h : t.sz ≤ 1048576) : (lettersM t node).length ≤ 1048577 := by
  unfold lettersM
  split
  · have h1 := letN_len t.flight node t.flight.length
    have h2 : t.flight.length ≤ t.sz := by unfold NetM.sz msgSz; omega
    omega
  · simp
theorem own_nil64 (w : World) (base : Nat) : Own w base none 0 0 [] := World.ownsRow_nil w base _ _

theorem own_blk0 {w : World} {p base : Nat} (h : Blk w p #[] 2) (hb : base ≤ p) : Own w base (some ⟨p, 0, none⟩) 0 0 [] := Own.of_blk (xs := []) h hb rfl (Nat.zero_le _)

theorem row_blk {w : World} {p : Nat} {x : Int} (h : Blk w p #[.int .i64 x] 2) : IRow w w.heap.size (some ⟨p, 0, none⟩) 1 [x] := by
  refine ⟨rfl, fun _ => ⟨p, 0, rfl, h.lt, fun j hj => ?_⟩⟩
  have : j = 0 := by omega
  subst this
  exact h.cell 0
theorem own_ne {w : World} {v : Value} {base p : Nat} (h : ∀ k, v.ownBlock = some k → base ≤ k ∧ k < w.heap.size) (hp : p < base) : some p ≠ v.ownBlock := fun e => by
  have := h p e.symm
  omega

end Go.Proofs.Ythcagdcbifdfeaa

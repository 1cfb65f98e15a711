/-
  Chapter 7: operations and entries as numbers.
-/
import Derived.Test.YthjjdelpdiipdaaEnt
import Derived.Test.YthjjdelpdiipdaaGen2
namespace Go.Proofs.Ythjjdelpdiipdaa
set_option maxRecDepth 100000
open Go.RowKit

/-- x lies from lo to hi. -/
def inB (x lo hi : Int) : Bool := decide (lo ≤ x) && decide (x ≤ hi)
theorem inB_iff (x lo hi : Int) : inB x lo hi = true ↔ lo ≤ x ∧ x ≤ hi := by simp [inB]
def opB (o : OpM) : Bool :=
  if o.kind = 1 then inB o.a 0 9 && (inB o.b 0 999 && (decide (o.c = 0) && decide (o.d = 0)))
  else if o.kind = 2 then inB o.a 0 9 && (decide (o.b = 0) && (decide (o.c = 0) && decide (o.d = 0)))
  else if o.kind = 3 then inB o.a 1 20 && (inB o.b 0 1000000 && (inB o.c 0 9 && inB o.d 0 999))
  else if o.kind = 4 then inB o.a 1 20 && (inB o.b 0 1000 && (decide (o.c = 0) && decide (o.d = 0)))
  else if o.kind = 5 then inB o.a 1 1000 && (decide (o.b = 0) && (decide (o.c = 0) && decide (o.d = 0)))
  else false
def EntM.op (e : EntM) : OpM := ⟨e.kd, e.oa, e.ob, e.oc, e.od⟩
def askB (x : Int) : Bool := inB x 2 5
def entB (e : EntM) : Bool := inB e.idx 1 2000 && (inB e.tm 0 1000000 && (askB e.cl && (inB e.sq 1 2000 && opB e.op)))
def op0 : OpM := ⟨0, 0, 0, 0, 0⟩
def ent0 : EntM := ⟨0, 0, 0, 0, 0, 0, 0, 0, 0⟩
def opNs (o : OpM) : List Int := [o.kind, o.a, o.b, o.c, o.d]
def opRowM (o : OpM) : List Int := if opB o = true then opNs o else []
def ofOp (r : List Int) : OpM := ⟨r.getD 0 0, r.getD 1 0, r.getD 2 0, r.getD 3 0, r.getD 4 0⟩
def rowOpM (r : List Int) : OpM × Bool := if r.length = 5 then (if opB (ofOp r) = true then (ofOp r, true) else (op0, false)) else (op0, false)
def entRowM (e : EntM) : List Int := if entB e = true then entNs e else []
def ofEnt (r : List Int) : EntM := ⟨r.getD 0 0, r.getD 1 0, r.getD 2 0, r.getD 3 0, r.getD 4 0, r.getD 5 0, r.getD 6 0, r.getD 7 0, r.getD 8 0⟩
def rowEntM (r : List Int) : EntM × Bool := if r.length = 9 then (if entB (ofEnt r) = true then (ofEnt r, true) else (ent0, false)) else (ent0, false)
/-- The step at j: valid, next index, time not less. -/
def nextAt (l : List EntM) (j : Nat) : Bool := decide (j = 0) || (decide ((l.getD j ent0).idx = (l.getD (j - 1) ent0).idx + 1) && decide ((l.getD (j - 1) ent0).tm ≤ (l.getD j ent0).tm))
def entsAt (l : List EntM) (j : Nat) : Bool := entB (l.getD j ent0) && nextAt l j
def entsB (l : List EntM) : Bool := decide (l.length ≤ 2000) && (List.range l.length).all (entsAt l)
def ofN (l : List EntM) (c : Int) (j : Nat) : List EntM := (l.take j).filter fun x => x.cl == c
def ofM (l : List EntM) (c : Int) : List EntM := if entsB l = true then ofN l c l.length else []
theorem egetD {l : List EntM} {j : Nat} (hj : j < l.length) : l.getD j ent0 = l[j] := by simp [List.getD, List.getElem?_eq_getElem hj]
theorem opB_kind {o : OpM} (h : opB o = true) : 1 ≤ o.kind ∧ o.kind ≤ 5 := by
  unfold opB at h
  split at h
  · omega
  · split at h
    · omega
    · split at h
      · omega
      · split at h
        · omega
        · split at h
          · omega
          · cases h
theorem entB_op {e : EntM} (h : entB e = true) : opB e.op = true := by
  unfold entB at h
  simp only [Bool.and_eq_true] at h
  exact h.2.2.2.2
theorem entB_iff (e : EntM) : entB e = true ↔ (1 ≤ e.idx ∧ e.idx ≤ 2000) ∧ (0 ≤ e.tm ∧ e.tm ≤ 1000000) ∧ (2 ≤ e.cl ∧ e.cl ≤ 5) ∧ (1 ≤ e.sq ∧ e.sq ≤ 2000) ∧ opB e.op = true := by
  unfold entB askB
  simp only [Bool.and_eq_true, inB_iff]
theorem opRowM_sz (o : OpM) : (opRowM o).length ≤ 1048577 := by unfold opRowM; split <;> simp [opNs]
theorem entRowM_sz (e : EntM) : (entRowM e).length ≤ 1048577 := by unfold entRowM; split <;> simp [entNs]
theorem entsB_iff (l : List EntM) : entsB l = true ↔ l.length ≤ 2000 ∧ ∀ j, j < l.length → entsAt l j = true := by
  unfold entsB
  simp only [Bool.and_eq_true, decide_eq_true_eq, List.all_eq_true, List.mem_range]
theorem entsB_long {l : List EntM} (h : 2000 < l.length) : entsB l = false := by
  unfold entsB
  rw [decide_eq_false (by omega), Bool.false_and]
theorem entsB_step {l : List EntM} {j : Nat} (hj : j < l.length) (h : entsAt l j = false) : entsB l = false := by
  rw [Bool.eq_false_iff]
  intro h2
  have := ((entsB_iff l).1 h2).2 j hj
  rw [h] at this
  cases this
theorem entsB_end {l : List EntM} (h : l.length ≤ 2000) (h2 : ∀ j, j < l.length → entsAt l j = true) : entsB l = true := (entsB_iff l).2 ⟨h, h2⟩
theorem nextAt_zero (l : List EntM) : nextAt l 0 = true := rfl
theorem nextAt_succ {l : List EntM} {k : Nat} (h : k + 1 < l.length) : nextAt l (k + 1) = (decide (l[k + 1].idx = l[k].idx + 1) && decide (l[k].tm ≤ l[k + 1].tm)) := by
  unfold nextAt
  rw [Nat.add_sub_cancel, egetD h, egetD (show k < l.length by omega), decide_eq_false (by omega), Bool.false_or]
theorem entsAt_eq {l : List EntM} {j : Nat} (hj : j < l.length) : entsAt l j = (entB l[j] && nextAt l j) := by
  unfold entsAt
  rw [egetD hj]
theorem ofN_yes {l : List EntM} {c : Int} {j : Nat} (hj : j < l.length) (h : l[j].cl = c) : ofN l c (j + 1) = ofN l c j ++ [l[j]] := by
  unfold ofN
  rw [List.take_succ_eq_append_getElem hj, List.filter_append]
  simp [h]
theorem ofN_no {l : List EntM} {c : Int} {j : Nat} (hj : j < l.length) (h : ¬ l[j].cl = c) : ofN l c (j + 1) = ofN l c j := by
  unfold ofN
  rw [List.take_succ_eq_append_getElem hj, List.filter_append]
  simp [h]
theorem ofN_len (l : List EntM) (c : Int) (j : Nat) : (ofN l c j).length ≤ j := Nat.le_trans (List.length_filter_le _ _) (by simp; omega)
theorem ofM_sz (l : List EntM) (c : Int) (h : entSz l ≤ 1048576) : entSz (ofM l c) ≤ 1048577 := by
  unfold entSz at *
  unfold ofM
  split
  · have := ofN_len l c l.length
    omega
  · simp

end Go.Proofs.Ythjjdelpdiipdaa

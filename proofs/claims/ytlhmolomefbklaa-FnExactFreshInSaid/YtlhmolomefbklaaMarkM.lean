/-
  Chapter 9: marks as a mathematics.
-/
import Derived.Test.YtlhmolomefbklaaMark
import Derived.Test.YtlhmolomefbklaaEntM
namespace Go.Proofs.Ytlhmolomefbklaa
set_option maxRecDepth 100000
open Go.RowKit

def mark0 : MarkM := ⟨0, 0, 0⟩
def markB (x : MarkM) : Bool := askB x.mc && (inB x.ms 1 2000 && inB x.mi 1 2000)
theorem mgetD {l : List MarkM} {j : Nat} (hj : j < l.length) : l.getD j mark0 = l[j] := by simp [List.getD, List.getElem?_eq_getElem hj]
theorem markB_iff (x : MarkM) : markB x = true ↔ (2 ≤ x.mc ∧ x.mc ≤ 5) ∧ (1 ≤ x.ms ∧ x.ms ≤ 2000) ∧ (1 ≤ x.mi ∧ x.mi ≤ 2000) := by
  unfold markB askB
  simp only [Bool.and_eq_true, inB_iff]
/-- No mark before k has the index of the one at j. -/
def freeTo (l : List MarkM) (j k : Nat) : Bool := (List.range k).all fun q => decide ((l.getD q mark0).mi ≠ (l.getD j mark0).mi)
def riseAt (l : List MarkM) (j : Nat) : Bool := decide (j = 0) || decide ((l.getD (j - 1) mark0).mc < (l.getD j mark0).mc)
def seenAt (l : List MarkM) (j : Nat) : Bool := (markB (l.getD j mark0) && riseAt l j) && freeTo l j j
def seenB (l : List MarkM) : Bool := decide (l.length ≤ 4) && (List.range l.length).all (seenAt l)
theorem seenB_iff (l : List MarkM) : seenB l = true ↔ l.length ≤ 4 ∧ ∀ j, j < l.length → seenAt l j = true := by
  unfold seenB
  simp only [Bool.and_eq_true, decide_eq_true_eq, List.all_eq_true, List.mem_range]
theorem seenB_long {l : List MarkM} (h : 4 < l.length) : seenB l = false := by
  unfold seenB
  rw [decide_eq_false (by omega), Bool.false_and]
theorem seenB_step {l : List MarkM} {j : Nat} (hj : j < l.length) (h : seenAt l j = false) : seenB l = false := by
  rw [Bool.eq_false_iff]
  intro h2
  have := ((seenB_iff l).1 h2).2 j hj
  rw [h] at this
  cases this
theorem freeTo_iff (l : List MarkM) (j k : Nat) : freeTo l j k = true ↔ ∀ q, q < k → (l.getD q mark0).mi ≠ (l.getD j mark0).mi := by
  unfold freeTo
  simp only [List.all_eq_true, List.mem_range, decide_eq_true_eq]
theorem freeTo_no {l : List MarkM} {j k q : Nat} (hq : q < k) (h : (l.getD q mark0).mi = (l.getD j mark0).mi) : freeTo l j k = false := by
  rw [Bool.eq_false_iff]
  intro h2
  exact (freeTo_iff l j k).1 h2 q hq h
theorem seen_mark {l : List MarkM} (h : seenB l = true) {j : Nat} (hj : j < l.length) : markB l[j] = true := by
  have h1 := ((seenB_iff l).1 h).2 j hj
  unfold seenAt at h1
  rw [mgetD hj, Bool.and_eq_true, Bool.and_eq_true] at h1
  exact h1.1.1
theorem seen_len {l : List MarkM} (h : seenB l = true) : l.length ≤ 4 := ((seenB_iff l).1 h).1
/-- The first mark of that client, from the front. -/
def findM (l : List MarkM) (c : Int) : MarkM := (l.find? fun x => x.mc == c).getD mark0
def markOf (l : List MarkM) (c : Int) : MarkM := if seenB l = true then findM l c else mark0
/-- None of the first j marks is of that client. -/
def noneTo (l : List MarkM) (c : Int) (j : Nat) : Prop := ∀ q, q < j → (l.getD q mark0).mc ≠ c
theorem findM_at {l : List MarkM} {c : Int} : ∀ {j : Nat} (hj : j < l.length), noneTo l c j → l[j].mc = c → findM l c = l[j] := by
  induction l with
  | nil => intro j hj; exact absurd hj (by simp)
  | cons x t ih =>
    intro j hj hn he
    unfold findM
    rw [List.find?_cons]
    cases j with
    | zero =>
      have e : (x.mc == c) = true := by simpa using he
      rw [e]
      rfl
    | succ k =>
      have h0 := hn 0 (by omega)
      have e : (x.mc == c) = false := by simpa using h0
      rw [e]
      have hk : k < t.length := by simpa using hj
      have := ih hk (fun q hq => by have := hn (q + 1) (by omega); simpa using this) (by simpa using he)
      unfold findM at this
      rw [this]
      simp
theorem findM_none {l : List MarkM} {c : Int} (h : noneTo l c l.length) : findM l c = mark0 := by
  unfold findM
  rw [List.find?_eq_none.2 fun x hx => ?_]
  · rfl
  · obtain ⟨j, hj, rfl⟩ := List.getElem_of_mem hx
    have := h j hj
    rw [mgetD hj] at this
    simpa using this
def freshB (l : List MarkM) (c s : Int) : Bool := seenB l && (askB c && (inB s 1 2000 && decide ((markOf l c).ms < s)))
def maxTo (l : List MarkM) (j : Nat) : Int := (l.take j).foldl (fun a x => max a x.mi) 0
def lastS (l : List MarkM) : Int := if seenB l = true then maxTo l l.length else 0
theorem maxTo_step {l : List MarkM} {j : Nat} (hj : j < l.length) : maxTo l (j + 1) = max (maxTo l j) l[j].mi := by
  unfold maxTo
  rw [List.take_succ_eq_append_getElem hj, List.foldl_append]
  rfl
theorem maxTo_zero (l : List MarkM) : maxTo l 0 = 0 := by
  unfold maxTo
  rw [List.take_zero]
  rfl
def sameM (x y : MarkM) : Bool := mrkNs x == mrkNs y
theorem sameM_iff (x y : MarkM) : sameM x y = true ↔ x = y := by
  unfold sameM
  rw [beq_iff_eq]
  cases x
  cases y
  simp [mrkNs]
def sameMs (l r : List MarkM) : Bool := decide (l.length = r.length) && (List.range l.length).all fun j => sameM (l.getD j mark0) (r.getD j mark0)
theorem sameMs_iff (l r : List MarkM) : sameMs l r = true ↔ l = r := by
  constructor
  · intro h
    unfold sameMs at h
    simp only [Bool.and_eq_true, decide_eq_true_eq, List.all_eq_true, List.mem_range] at h
    refine List.ext_getElem h.1 fun j h1 h2 => ?_
    have := (sameM_iff _ _).1 (h.2 j h1)
    rwa [mgetD h1, mgetD h2] at this
  · rintro rfl
    unfold sameMs
    simp [(sameM_iff _ _).2 rfl]
theorem sameMs_len {l r : List MarkM} (h : l.length ≠ r.length) : sameMs l r = false := by
  unfold sameMs
  rw [decide_eq_false h, Bool.false_and]
theorem sameMs_step {l r : List MarkM} {j : Nat} (h : sameM (l.getD j mark0) (r.getD j mark0) = false) : sameMs l r = false := by
  rw [Bool.eq_false_iff]
  intro h2
  have e := (sameMs_iff l r).1 h2
  subst e
  rw [(sameM_iff _ _).2 rfl] at h
  cases h
/-- The marks with a client's replaced or put in its place. -/
def insM (l : List MarkM) (x : MarkM) : List MarkM := (l.filter fun y => decide (y.mc < x.mc)) ++ x :: (l.filter fun y => decide (x.mc < y.mc))
def mayB (l : List MarkM) (e : EntM) : Bool := entB e && (freshB l e.cl e.sq && decide (lastS l < e.idx))
def markedM (l : List MarkM) (e : EntM) : List MarkM × Bool := if seenB l = true then (if mayB l e = true then (insM l ⟨e.cl, e.sq, e.idx⟩, true) else (l, false)) else ([], false)
def overM (l : List MarkM) (es : List EntM) : List MarkM := es.foldl (fun a e => insM a ⟨e.cl, e.sq, e.idx⟩) l
def overAt (l : List MarkM) (es : List EntM) (j : Nat) : Bool := mayB (overM l (es.take j)) (es.getD j ent0)
def overB (l : List MarkM) (es : List EntM) : Bool := (List.range es.length).all (overAt l es)
def seenOverM (l : List MarkM) (es : List EntM) : List MarkM × Bool := if seenB l = true then (if es.length ≤ 2000 then (if overB l es = true then (overM l es, true) else (l, false)) else (l, false)) else ([], false)
theorem overM_step {l : List MarkM} {es : List EntM} {j : Nat} (hj : j < es.length) : overM l (es.take (j + 1)) = insM (overM l (es.take j)) ⟨es[j].cl, es[j].sq, es[j].idx⟩ := by
  unfold overM
  rw [List.take_succ_eq_append_getElem hj, List.foldl_append]
  rfl

end Go.Proofs.Ytlhmolomefbklaa

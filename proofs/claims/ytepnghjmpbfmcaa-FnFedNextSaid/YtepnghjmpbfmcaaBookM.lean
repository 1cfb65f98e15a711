/-
  Chapter 8: books as a mathematics.
-/
import Derived.Test.YtepnghjmpbfmcaaBook
import Derived.Test.YtepnghjmpbfmcaaEntM
namespace Go.Proofs.Ytepnghjmpbfmcaa
set_option maxRecDepth 100000
open Go.RowKit

def book0 : BookM := ⟨0, 0, []⟩
def headB (b : BookM) : Bool := decide (b.ents.length = 0) || (decide ((b.ents.getD 0 ent0).idx = b.base + 1) && decide (b.tm ≤ (b.ents.getD 0 ent0).tm))
def bookB (b : BookM) : Bool := inB b.base 0 2000 && (inB b.tm 0 1000000 && ((decide (b.base ≠ 0) || decide (b.tm = 0)) && (decide (b.ents.length ≤ 20) && (entsB b.ents && headB b))))
def lastB (b : BookM) : Int := b.base + (b.ents.length : Int)
def lastM (b : BookM) : Int := if bookB b = true then lastB b else 0
def timeAt (b : BookM) (i : Int) : Int := if i = b.base then b.tm else (b.ents.getD (i - b.base - 1).toNat ent0).tm
def timeM (b : BookM) : Int := if bookB b = true then timeAt b (lastB b) else 0
def atM (b : BookM) (i : Int) : EntM × Bool := if bookB b = true then (if inB i (b.base + 1) (lastB b) = true then (b.ents.getD (i - b.base - 1).toNat ent0, true) else (ent0, false)) else (ent0, false)
def nextB (b : BookM) (e : EntM) : Bool := entB e && (decide (e.idx = lastB b + 1) && (decide (timeAt b (lastB b) ≤ e.tm) && decide (b.ents.length ≠ 20)))
def more (b : BookM) (l : List EntM) : BookM := ⟨b.base, b.tm, b.ents ++ l⟩
def appM (b : BookM) (e : EntM) : BookM × Bool := if bookB b = true then (if nextB b e = true then (more b [e], true) else (b, false)) else (book0, false)
/-- The entries of l before j have been appended: so can the one at j. -/
def growAt (b : BookM) (l : List EntM) (j : Nat) : Bool := nextB (more b (l.take j)) (l.getD j ent0)
def growB (b : BookM) (l : List EntM) : Bool := (List.range l.length).all (growAt b l)
def growM (b : BookM) (l : List EntM) : BookM × Bool := if bookB b = true then (if l.length ≤ 20 then (if growB b l = true then (more b l, true) else (b, false)) else (b, false)) else (book0, false)
def inBook (b : BookM) (i : Int) : Bool := inB i b.base (lastB b)
def trimM (b : BookM) (i : Int) : BookM × Bool := if bookB b = true then (if inBook b i = true then (⟨i, timeAt b i, b.ents.drop (i - b.base).toNat⟩, true) else (b, false)) else (book0, false)
def backM (b : BookM) (i : Int) : BookM × Bool := if bookB b = true then (if inBook b i = true then (⟨b.base, b.tm, b.ents.take (i - b.base).toNat⟩, true) else (b, false)) else (book0, false)
def partN (l : List EntM) (x : Int) (j : Nat) : List EntM := (l.take j).filter fun e => decide (x ≤ e.idx)
def partM (b : BookM) (x m : Int) : List EntM := if bookB b = true then (b.ents.filter fun e => decide (x ≤ e.idx)).take m.toNat else []
def sameE (x y : EntM) : Bool := entNs x == entNs y
def sameEs (l r : List EntM) : Bool := decide (l.length = r.length) && (List.range l.length).all fun j => sameE (l.getD j ent0) (r.getD j ent0)
def sameBook (a b : BookM) : Bool := decide (a.base = b.base) && (decide (a.tm = b.tm) && sameEs a.ents b.ents)

theorem bookB_iff (b : BookM) : bookB b = true ↔ (0 ≤ b.base ∧ b.base ≤ 2000) ∧ (0 ≤ b.tm ∧ b.tm ≤ 1000000) ∧ (b.base ≠ 0 ∨ b.tm = 0) ∧ b.ents.length ≤ 20 ∧ entsB b.ents = true ∧ headB b = true := by
  unfold bookB
  simp only [Bool.and_eq_true, Bool.or_eq_true, inB_iff, decide_eq_true_eq]
theorem bookB_len {b : BookM} (h : bookB b = true) : b.ents.length ≤ 20 := ((bookB_iff b).1 h).2.2.2.1
theorem book_sz (b : BookM) : b.sz = b.ents.length := rfl
theorem sameE_iff (x y : EntM) : sameE x y = true ↔ x = y := by
  unfold sameE
  rw [beq_iff_eq]
  cases x
  cases y
  simp [entNs]
theorem sameE_refl (x : EntM) : sameE x x = true := (sameE_iff x x).2 rfl
theorem timeAt_base (b : BookM) : timeAt b b.base = b.tm := if_pos rfl
theorem timeAt_in {b : BookM} {j : Nat} (hj : j < b.ents.length) : timeAt b (b.base + 1 + (j : Int)) = b.ents[j].tm := by
  unfold timeAt
  rw [if_neg (by omega), show (b.base + 1 + (j : Int) - b.base - 1).toNat = j by omega, egetD hj]
theorem partN_yes {l : List EntM} {x : Int} {j : Nat} (hj : j < l.length) (h : x ≤ l[j].idx) : partN l x (j + 1) = partN l x j ++ [l[j]] := by
  unfold partN
  rw [List.take_succ_eq_append_getElem hj, List.filter_append]
  simp [h]
theorem partN_no {l : List EntM} {x : Int} {j : Nat} (hj : j < l.length) (h : ¬ x ≤ l[j].idx) : partN l x (j + 1) = partN l x j := by
  unfold partN
  rw [List.take_succ_eq_append_getElem hj, List.filter_append]
  simp [h]
theorem partN_all (l : List EntM) (x : Int) : partN l x l.length = l.filter fun e => decide (x ≤ e.idx) := by
  unfold partN
  rw [List.take_length]
theorem partN_pre (l : List EntM) (x : Int) (j : Nat) : ∃ t, (l.filter fun e => decide (x ≤ e.idx)) = partN l x j ++ t := by
  refine ⟨(l.drop j).filter fun e => decide (x ≤ e.idx), ?_⟩
  unfold partN
  rw [← List.filter_append, List.take_append_drop]
theorem partN_len (l : List EntM) (x : Int) (j : Nat) : (partN l x j).length ≤ j := Nat.le_trans (List.length_filter_le _ _) (by simp; omega)
/-- The walk has run out of entries. -/
theorem part_end {b : BookM} (h : bookB b = true) {x m : Int} (hl : (partN b.ents x b.ents.length).length ≤ m.toNat) : partM b x m = partN b.ents x b.ents.length := by
  unfold partM
  rw [if_pos h, ← partN_all, List.take_of_length_le hl]
/-- The walk has as many as were asked. -/
theorem part_full {b : BookM} (h : bookB b = true) {x m : Int} {j : Nat} (hl : (partN b.ents x j).length = m.toNat) : partM b x m = partN b.ents x j := by
  unfold partM
  obtain ⟨t, e⟩ := partN_pre b.ents x j
  rw [if_pos h, e, ← hl, List.take_left]
theorem growB_iff (b : BookM) (l : List EntM) : growB b l = true ↔ ∀ j, j < l.length → growAt b l j = true := by
  unfold growB
  simp only [List.all_eq_true, List.mem_range]
theorem growB_step {b : BookM} {l : List EntM} {j : Nat} (hj : j < l.length) (h : growAt b l j = false) : growB b l = false := by
  rw [Bool.eq_false_iff]
  intro h2
  have := (growB_iff b l).1 h2 j hj
  rw [h] at this
  cases this
theorem more_nil (b : BookM) : more b [] = b := by
  unfold more
  rw [List.append_nil]
theorem more_more (b : BookM) (l r : List EntM) : more (more b l) r = more b (l ++ r) := by
  unfold more
  rw [List.append_assoc]
theorem more_take {b : BookM} {l : List EntM} {j : Nat} (hj : j < l.length) : more (more b (l.take j)) [l[j]] = more b (l.take (j + 1)) := by
  rw [more_more, List.take_succ_eq_append_getElem hj]
theorem sameEs_refl (l : List EntM) : sameEs l l = true := by
  unfold sameEs
  simp [sameE_refl]
theorem sameEs_iff (l r : List EntM) : sameEs l r = true ↔ l = r := by
  constructor
  · intro h
    unfold sameEs at h
    simp only [Bool.and_eq_true, decide_eq_true_eq, List.all_eq_true, List.mem_range] at h
    refine List.ext_getElem h.1 fun j h1 h2 => ?_
    have := (sameE_iff _ _).1 (h.2 j h1)
    rwa [egetD h1, egetD h2] at this
  · rintro rfl
    exact sameEs_refl l
theorem sameEs_len {l r : List EntM} (h : l.length ≠ r.length) : sameEs l r = false := by
  unfold sameEs
  rw [decide_eq_false h, Bool.false_and]
theorem sameEs_step {l r : List EntM} {j : Nat} (_hj : j < l.length) (h : sameE (l.getD j ent0) (r.getD j ent0) = false) : sameEs l r = false := by
  rw [Bool.eq_false_iff]
  intro h2
  have e := (sameEs_iff l r).1 h2
  subst e
  rw [sameE_refl] at h
  cases h
theorem sameBook_iff (a b : BookM) : sameBook a b = true ↔ a = b := by
  unfold sameBook
  simp only [Bool.and_eq_true, decide_eq_true_eq, sameEs_iff]
  cases a
  cases b
  simp

end Go.Proofs.Ytepnghjmpbfmcaa

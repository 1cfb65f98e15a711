/-
  Chapter 6: the functions of clocks and timers as mathematics.
-/
import Derived.Test.YtepnghjmpbfmcaaTimer
import Derived.Test.YtepnghjmpbfmcaaGen2
import Derived.Test.YtepnghjmpbfmcaaNode
namespace Go.Proofs.Ytepnghjmpbfmcaa
set_option maxRecDepth 100000
open Go.RowKit

def timeB (x : Int) : Bool := decide (0 ≤ x) && decide (x ≤ 1000000)
theorem timeB_iff (x : Int) : timeB x = true ↔ 0 ≤ x ∧ x ≤ 1000000 := by simp [timeB]
def clocksB (l : List Int) : Bool := decide (l.length = 6) && l.all timeB
theorem clocksB_spec {l : List Int} (h : clocksB l = true) : l.length = 6 ∧ ∀ j (hj : j < l.length), 0 ≤ l[j] ∧ l[j] ≤ 1000000 := by
  unfold clocksB at h
  simp only [Bool.and_eq_true, decide_eq_true_eq, List.all_eq_true] at h
  exact ⟨h.1, fun j hj => (timeB_iff _).1 (h.2 _ (List.getElem_mem hj))⟩
theorem clocksB_len {l : List Int} (h : ¬ l.length = 6) : clocksB l = false := by
  unfold clocksB
  rw [decide_eq_false h, Bool.false_and]
theorem clocksB_bad {l : List Int} {j : Nat} (hj : j < l.length) (h : timeB l[j] = false) : clocksB l = false := by
  unfold clocksB
  rw [all_less hj h, Bool.and_false]
theorem clocksB_yes {l : List Int} (h : l.length = 6) (h2 : l.all timeB = true) : clocksB l = true := by
  unfold clocksB
  rw [decide_eq_true h, h2]
  rfl

def nth (l : List Int) (i : Int) : Int := l.getD i.toNat 0
def jumpedM (l : List Int) (node to : Int) : List Int × Bool :=
  if clocksB l = true then (if (nodeB node && timeB to) = true then (l.set node.toNat to, true) else (l, false)) else ([], false)
def tickedM (l : List Int) (node n : Int) : List Int × Bool :=
  if clocksB l = true then (if (nodeB node && (timeB n && decide (nth l node + n ≤ 1000000))) = true then (l.set node.toNat (nth l node + n), true) else (l, false)) else ([], false)
def maxN (l : List Int) (j : Nat) : Int := (l.take j).foldl max (l.getD 0 0)
def minN (l : List Int) (j : Nat) : Int := (l.take j).foldl min (l.getD 0 0)
def latestM (l : List Int) : Int := if clocksB l = true then maxN l l.length else 0
def apartM (l : List Int) : Int := if clocksB l = true then maxN l l.length - minN l l.length else 0
theorem maxN_step {l : List Int} {j : Nat} (hj : j < l.length) : maxN l (j + 1) = max (maxN l j) l[j] := by
  unfold maxN
  rw [List.take_succ_eq_append_getElem hj, List.foldl_append]
  rfl
theorem minN_step {l : List Int} {j : Nat} (hj : j < l.length) : minN l (j + 1) = min (minN l j) l[j] := by
  unfold minN
  rw [List.take_succ_eq_append_getElem hj, List.foldl_append]
  rfl
theorem maxN_one {l : List Int} (h : 0 < l.length) : maxN l 1 = l[0] := by
  rw [maxN_step h]
  unfold maxN
  simp [List.getD, List.getElem?_eq_getElem h]
theorem minN_one {l : List Int} (h : 0 < l.length) : minN l 1 = l[0] := by
  rw [minN_step h]
  unfold minN
  simp [List.getD, List.getElem?_eq_getElem h]
theorem maxN_range {l : List Int} (h : ∀ j (hj : j < l.length), 0 ≤ l[j] ∧ l[j] ≤ 1000000) : ∀ j, 0 < l.length → j ≤ l.length → 0 ≤ maxN l j ∧ maxN l j ≤ 1000000 := by
  intro j h0
  induction j with
  | zero =>
    intro _
    have := h 0 h0
    unfold maxN
    simpa [List.getD, List.getElem?_eq_getElem h0] using this
  | succ j ih =>
    intro hj
    rw [maxN_step (by omega)]
    have h1 := ih (by omega)
    have h2 := h j (by omega)
    omega
theorem minN_range {l : List Int} (h : ∀ j (hj : j < l.length), 0 ≤ l[j] ∧ l[j] ≤ 1000000) : ∀ j, 0 < l.length → j ≤ l.length → 0 ≤ minN l j ∧ minN l j ≤ 1000000 := by
  intro j h0
  induction j with
  | zero =>
    intro _
    have := h 0 h0
    unfold minN
    simpa [List.getD, List.getElem?_eq_getElem h0] using this
  | succ j ih =>
    intro hj
    rw [minN_step (by omega)]
    have h1 := ih (by omega)
    have h2 := h j (by omega)
    omega
theorem jumpedM_sz (l : List Int) (x y : Int) (h : l.length ≤ 1048576) : ((jumpedM l x y).1).length ≤ 1048577 := by
  unfold jumpedM
  split
  · split
    · simp; omega
    · simp; omega
  · simp
theorem tickedM_sz (l : List Int) (x y : Int) (h : l.length ≤ 1048576) : ((tickedM l x y).1).length ≤ 1048577 := by
  unfold tickedM
  split
  · split
    · simp; omega
    · simp; omega
  · simp
theorem nodeB_nat {x : Int} (h : nodeB x = true) : ∃ i : Nat, i < 6 ∧ x = (i : Int) := by
  have := (nodeB_iff x).1 h
  exact ⟨x.toNat, by omega, by omega⟩
theorem nth_at {l : List Int} {i : Nat} (hi : i < l.length) : nth l (i : Int) = l[i] := by
  unfold nth
  simp [List.getD, List.getElem?_eq_getElem hi]

-- timers
def tim0 : TimerM := ⟨0, 0⟩
def timerB (x : TimerM) : Bool := decide (0 ≤ x.tid) && (decide (x.tid ≤ 99) && timeB x.due)
def timLess (x y : TimerM) : Bool := decide (x.due < y.due) || (x.due == y.due && decide (x.tid < y.tid))
/-- The timers before j: none has this id. -/
def noneId (l : List TimerM) (j : Nat) (i : Int) : Bool := (l.take j).all fun x => x.tid != i
def ordAt (l : List TimerM) (j : Nat) : Bool := decide (j = 0) || timLess (l.getD (j - 1) tim0) (l.getD j tim0)
def disAt (l : List TimerM) (j : Nat) : Bool := noneId l j (l.getD j tim0).tid
def stepAt (l : List TimerM) (j : Nat) : Bool := timerB (l.getD j tim0) && (ordAt l j && disAt l j)
def ordB (l : List TimerM) : Bool := (List.range l.length).all (ordAt l)
def disB (l : List TimerM) : Bool := (List.range l.length).all (disAt l)
def timersB (l : List TimerM) : Bool := decide (l.length ≤ 16) && (l.all timerB && (ordB l && disB l))
theorem tgetD {l : List TimerM} {j : Nat} (hj : j < l.length) : l.getD j tim0 = l[j] := by simp [List.getD, List.getElem?_eq_getElem hj]
theorem range_all {n : Nat} {p : Nat → Bool} : (List.range n).all p = true ↔ ∀ j, j < n → p j = true := by
  rw [List.all_eq_true]
  exact ⟨fun h j hj => h j (by simpa using hj), fun h j hj => h j (by simpa using hj)⟩
theorem range_bad {n : Nat} {p : Nat → Bool} {j : Nat} (hj : j < n) (h : p j = false) : (List.range n).all p = false := by
  rw [Bool.eq_false_iff]
  intro hh
  have := range_all.1 hh j hj
  rw [h] at this
  cases this
theorem timersB_iff (l : List TimerM) : timersB l = true ↔ l.length ≤ 16 ∧ ∀ j, j < l.length → stepAt l j = true := by
  unfold timersB ordB disB stepAt
  simp only [Bool.and_eq_true, decide_eq_true_eq, List.all_eq_true]
  constructor
  · rintro ⟨h1, h2, h3, h4⟩
    exact ⟨h1, fun j hj => ⟨by rw [tgetD hj]; exact h2 _ (List.getElem_mem hj), h3 j (List.mem_range.2 hj), h4 j (List.mem_range.2 hj)⟩⟩
  · rintro ⟨h1, h2⟩
    refine ⟨h1, fun x hx => ?_, fun j hj => (h2 j (List.mem_range.1 hj)).2.1, fun j hj => (h2 j (List.mem_range.1 hj)).2.2⟩
    obtain ⟨j, hj, rfl⟩ := List.getElem_of_mem hx
    have := (h2 j hj).1
    rwa [tgetD hj] at this
theorem timersB_long {l : List TimerM} (h : 16 < l.length) : timersB l = false := by
  unfold timersB
  rw [decide_eq_false (by omega), Bool.false_and]
theorem timersB_step {l : List TimerM} {j : Nat} (hj : j < l.length) (h : stepAt l j = false) : timersB l = false := by
  rw [Bool.eq_false_iff]
  intro hh
  have := ((timersB_iff l).1 hh).2 j hj
  rw [h] at this
  cases this
theorem timersB_end {l : List TimerM} (h : l.length ≤ 16) (h2 : ∀ j, j < l.length → stepAt l j = true) : timersB l = true := (timersB_iff l).2 ⟨h, h2⟩
theorem timersB_bad {l : List TimerM} (h : l.all timerB = false) : timersB l = false := by
  unfold timersB
  rw [h, Bool.false_and, Bool.and_false]
theorem timersB_mid {l : List TimerM} (h : l.length ≤ 16) (h2 : l.all timerB = true) : timersB l = (ordB l && disB l) := by
  unfold timersB
  rw [decide_eq_true h, h2]
  rfl
theorem timersB_ok {l : List TimerM} (h : timersB l = true) {j : Nat} (hj : j < l.length) : 0 ≤ l[j].tid ∧ l[j].tid ≤ 99 ∧ 0 ≤ l[j].due ∧ l[j].due ≤ 1000000 := by
  have := ((timersB_iff l).1 h).2 j hj
  unfold stepAt timerB at this
  rw [tgetD hj] at this
  simp only [Bool.and_eq_true, decide_eq_true_eq, timeB_iff] at this
  exact ⟨this.1.1, this.1.2.1, this.1.2.2⟩
theorem timersB_len {l : List TimerM} (h : timersB l = true) : l.length ≤ 16 := ((timersB_iff l).1 h).1

def offN (l : List TimerM) (i : Int) (j : Nat) : List TimerM := (l.take j).filter fun x => x.tid != i
def offM (l : List TimerM) (i : Int) : List TimerM := l.filter fun x => x.tid != i
theorem offN_all (l : List TimerM) (i : Int) : offN l i l.length = offM l i := by
  unfold offN offM
  rw [List.take_of_length_le (Nat.le_refl _)]
theorem offN_yes {l : List TimerM} {i : Int} {j : Nat} (hj : j < l.length) (h : ¬ l[j].tid = i) : offN l i (j + 1) = offN l i j ++ [l[j]] := by
  unfold offN
  rw [List.take_succ_eq_append_getElem hj, List.filter_append]
  simp [h]
theorem offN_no {l : List TimerM} {i : Int} {j : Nat} (hj : j < l.length) (h : l[j].tid = i) : offN l i (j + 1) = offN l i j := by
  unfold offN
  rw [List.take_succ_eq_append_getElem hj, List.filter_append]
  simp [h]
theorem offN_len (l : List TimerM) (i : Int) (j : Nat) : (offN l i j).length ≤ j := by
  unfold offN
  exact Nat.le_trans (List.length_filter_le _ _) (by simp; omega)
theorem offM_len (l : List TimerM) (i : Int) : (offM l i).length ≤ l.length := List.length_filter_le _ _
/-- Where the id first stands; the length: nowhere. -/
def idIx (l : List TimerM) (i : Int) : Nat := firstNot (fun x => x.tid != i) l
def hasId (l : List TimerM) (i : Int) : Bool := decide (idIx l i < l.length)
theorem hasId_off (l : List TimerM) (i : Int) : hasId l i = decide ((offM l i).length < l.length) := by
  unfold hasId idIx offM
  have key : ∀ l : List TimerM, firstNot (fun x => x.tid != i) l < l.length ↔ (l.filter fun x => x.tid != i).length < l.length := by
    intro l
    induction l with
    | nil => simp [firstNot]
    | cons x xs ih =>
      have h1 := List.length_filter_le (fun x : TimerM => x.tid != i) xs
      by_cases hx : (x.tid != i) = true
      · simp [firstNot, hx, ih]
      · simp [firstNot, hx]; omega
  rw [Bool.eq_iff_iff]
  simp [key l]
theorem noneId_ix {l : List TimerM} {j : Nat} {i : Int} : noneId l j i = decide (idIx (l.take j) i = (l.take j).length) := by
  unfold noneId idIx
  generalize l.take j = m
  induction m with
  | nil => simp [firstNot]
  | cons x xs ih =>
    by_cases hx : (x.tid != i) = true
    · simp [firstNot, hx, ih]
    · simp [firstNot, hx]
def atId (l : List TimerM) (i : Int) : Int := if idIx l i < l.length then (idIx l i : Int) else -1
theorem atId_is {l : List TimerM} {i : Int} {j : Nat} (hj : j < l.length) (h1 : ∀ q (hq : q < l.length), q < j → ¬ l[q].tid = i) (h2 : l[j].tid = i) : atId l i = (j : Int) := by
  have e : idIx l i = j := firstNot_eq _ l j (Nat.le_of_lt hj) (fun q hq hlt => by simpa using h1 q hq hlt) (fun _ => by simp [h2])
  unfold atId
  rw [e, if_pos hj]
theorem atId_none {l : List TimerM} {i : Int} (h1 : ∀ q (hq : q < l.length), ¬ l[q].tid = i) : atId l i = -1 := by
  have e : idIx l i = l.length := firstNot_eq _ l l.length (Nat.le_refl _) (fun q hq _ => by simpa using h1 q hq) (fun h => absurd h (Nat.lt_irrefl _))
  unfold atId
  rw [e, if_neg (Nat.lt_irrefl _)]
theorem atId_has (l : List TimerM) (i : Int) : decide (0 ≤ atId l i) = hasId l i := by
  unfold atId hasId
  split
  · rename_i h
    rw [decide_eq_true h]
    simp
  · rename_i h
    rw [decide_eq_false h]
    rfl
theorem atId_take (l : List TimerM) (j : Nat) (i : Int) : decide (0 ≤ atId (l.take j) i) = !noneId l j i := by
  rw [atId_has, noneId_ix]
  unfold hasId
  have := firstNot_le (fun x : TimerM => x.tid != i) (l.take j)
  rw [Bool.eq_iff_iff]
  simp only [decide_eq_true_eq, Bool.not_eq_true', decide_eq_false_iff_not]
  unfold idIx
  omega

theorem noneId_zero (l : List TimerM) (i : Int) : noneId l 0 i = true := rfl
theorem noneId_more {l : List TimerM} {q : Nat} {i : Int} (hq : q < l.length) (h : noneId l q i = true) (hp : ¬ l[q].tid = i) : noneId l (q + 1) i = true :=
  all_more (p := fun x : TimerM => x.tid != i) hq h (by simpa using hp)
theorem noneId_bad {l : List TimerM} {q j : Nat} {i : Int} (hq : q < l.length) (hj : q < j) (hp : l[q].tid = i) : noneId l j i = false := by
  unfold noneId
  refine all_less (j := q) (by rw [List.length_take]; omega) ?_
  rw [List.getElem_take]
  simpa using hp
theorem noneId_at {l : List TimerM} {q : Nat} {i : Int} (h : noneId l q i = true) {p : Nat} (hp : p < l.length) (hq : p < q) : ¬ l[p].tid = i := fun e => by
  rw [noneId_bad hp hq e] at h
  cases h
theorem atT_is {l : List TimerM} {i : Int} {j q : Nat} (hq : q < l.length) (hqj : q < j) (h1 : noneId l q i = true) (h2 : l[q].tid = i) : atId (l.take j) i = (q : Int) :=
  atId_is (by rw [List.length_take]; omega) (fun p hp hlt => by rw [List.getElem_take]; exact noneId_at h1 (by omega) hlt) (by rw [List.getElem_take]; exact h2)
theorem atT_none {l : List TimerM} {i : Int} {j : Nat} (h : noneId l j i = true) : atId (l.take j) i = -1 :=
  atId_none (fun p hp => by
    rw [List.length_take] at hp
    rw [List.getElem_take]
    exact noneId_at h (by omega) (by omega))
theorem disAt_eq {l : List TimerM} {j : Nat} (hj : j < l.length) : disAt l j = noneId l j l[j].tid := by
  unfold disAt
  rw [tgetD hj]
theorem ordAt_zero (l : List TimerM) : ordAt l 0 = true := rfl
theorem stepAt_eq {l : List TimerM} {j : Nat} (hj : j < l.length) : stepAt l j = (timerB l[j] && (ordAt l j && noneId l j l[j].tid)) := by
  unfold stepAt
  rw [disAt_eq hj, tgetD hj]

def setIx (l : List TimerM) (x : TimerM) : Nat := firstNot (fun y => timLess y x) l
def putT (l : List TimerM) (x : TimerM) : List TimerM := l.take (setIx l x) ++ [x] ++ l.drop (setIx l x)
def timerSetM (l : List TimerM) (i d : Int) : List TimerM × Bool :=
  if timersB l = true then (if timersB (putT (offM l i) ⟨i, d⟩) = true then (putT (offM l i) ⟨i, d⟩, true) else (l, false)) else ([], false)
def timerOffM (l : List TimerM) (i : Int) : List TimerM × Bool := if timersB l = true then (offM l i, hasId l i) else ([], false)
theorem putT_len (l : List TimerM) (x : TimerM) : (putT l x).length = l.length + 1 := by
  unfold putT
  have := firstNot_le (fun y => timLess y x) l
  unfold setIx
  simp
  omega
theorem timerSetM_sz (l : List TimerM) (i d : Int) (h : timerSz l ≤ 1048576) : timerSz (timerSetM l i d).1 ≤ 1048577 := by
  unfold timerSz at *
  unfold timerSetM
  split
  · split
    · have := offM_len l i
      rw [putT_len]; omega
    · show l.length ≤ _; omega
  · simp
theorem timerOffM_sz (l : List TimerM) (i : Int) (h : timerSz l ≤ 1048576) : timerSz (timerOffM l i).1 ≤ 1048577 := by
  unfold timerSz at *
  unfold timerOffM
  split
  · have := offM_len l i
    show (offM l i).length ≤ _
    omega
  · simp
def dueN (l : List TimerM) (now : Int) (j : Nat) : List Int := ((l.take j).filter fun x => decide (x.due ≤ now)).map fun x => x.tid
def dueM (l : List TimerM) (now : Int) : List Int := if timersB l = true then dueN l now l.length else []
theorem dueN_yes {l : List TimerM} {now : Int} {j : Nat} (hj : j < l.length) (h : l[j].due ≤ now) : dueN l now (j + 1) = dueN l now j ++ [l[j].tid] := by
  unfold dueN
  rw [List.take_succ_eq_append_getElem hj, List.filter_append, List.map_append]
  simp [h]
theorem dueN_no {l : List TimerM} {now : Int} {j : Nat} (hj : j < l.length) (h : ¬ l[j].due ≤ now) : dueN l now (j + 1) = dueN l now j := by
  unfold dueN
  rw [List.take_succ_eq_append_getElem hj, List.filter_append, List.map_append]
  simp [h]
theorem dueN_len (l : List TimerM) (now : Int) (j : Nat) : (dueN l now j).length ≤ j := by
  unfold dueN
  rw [List.length_map]
  exact Nat.le_trans (List.length_filter_le _ _) (by simp; omega)
theorem dueM_sz (l : List TimerM) (now : Int) (h : timerSz l ≤ 1048576) : (dueM l now).length ≤ 1048577 := by
  unfold timerSz at h
  unfold dueM
  split
  · have := dueN_len l now l.length
    omega
  · simp
def nextM (l : List TimerM) : Int × Bool := if timersB l = true then (match l with | [] => (0, false) | x :: _ => (x.due, true)) else (0, false)

end Go.Proofs.Ytepnghjmpbfmcaa

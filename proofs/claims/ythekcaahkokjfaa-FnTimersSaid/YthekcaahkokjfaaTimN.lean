/-
  The law of timers: timers in order with different ids, a table of ids, and what becomes due.
-/
import Derived.Test.YthekcaahkokjfaaTimM
namespace Go.Proofs.Ythekcaahkokjfaa
set_option maxRecDepth 100000
open Go.RowKit

theorem timLess_iff (x y : TimerM) : timLess x y = true ↔ x.due < y.due ∨ (x.due = y.due ∧ x.tid < y.tid) := by simp [timLess]
theorem timLess_trans {x y z : TimerM} (h : timLess x y = true) (k : timLess y z = true) : timLess x z = true := by
  rw [timLess_iff] at *
  omega
theorem timLess_other {x y : TimerM} (h : ¬ timLess x y = true) (k : x.tid ≠ y.tid) : timLess y x = true := by
  rw [timLess_iff] at *
  omega
/-- In order, with different ids, each small. -/
structure GoodT (l : List TimerM) : Prop where
  ord : l.Pairwise fun x y => timLess x y = true
  dis : l.Pairwise fun x y => x.tid ≠ y.tid
  ok : ∀ x ∈ l, 0 ≤ x.tid ∧ x.tid ≤ 9 ∧ 0 ≤ x.due ∧ x.due < 40
theorem GoodT.nil : GoodT [] := ⟨.nil, .nil, fun x hx => absurd hx (by simp)⟩
theorem GoodT.yes {l : List TimerM} (h : GoodT l) (hl : l.length ≤ 16) : timersB l = true := by
  rw [timersB_mid hl (List.all_eq_true.2 fun x hx => by
    have := h.ok x hx
    simp [timerB, timeB]
    omega)]
  rw [Bool.and_eq_true]
  refine ⟨range_all.2 fun j hj => ?_, range_all.2 fun j hj => ?_⟩
  · cases j with
    | zero => rfl
    | succ k =>
      unfold ordAt
      rw [Nat.add_sub_cancel, tgetD hj, tgetD (show k < l.length by omega), decide_eq_false (by omega), Bool.false_or]
      exact List.pairwise_iff_getElem.1 h.ord k (k + 1) (by omega) hj (by omega)
  · rw [disAt_eq hj]
    unfold noneId
    rw [List.all_eq_true]
    intro x hx
    obtain ⟨q, hq, rfl⟩ := List.mem_iff_getElem.1 hx
    rw [List.length_take] at hq
    rw [List.getElem_take]
    have := List.pairwise_iff_getElem.1 h.dis q j (by omega) hj (by omega)
    simpa using this
theorem off_mem {l : List TimerM} {i : Int} {x : TimerM} : x ∈ offM l i ↔ x ∈ l ∧ x.tid ≠ i := by
  unfold offM
  rw [List.mem_filter]
  simp
theorem GoodT.off {l : List TimerM} (h : GoodT l) (i : Int) : GoodT (offM l i) :=
  ⟨h.ord.filter _, h.dis.filter _, fun x hx => h.ok x (off_mem.1 hx).1⟩
theorem put_mem {r : List TimerM} {x y : TimerM} : y ∈ putT r x ↔ y ∈ r ∨ y = x := by
  unfold putT
  rw [List.mem_append, List.mem_append, List.mem_singleton]
  have e : y ∈ r ↔ y ∈ r.take (setIx r x) ∨ y ∈ r.drop (setIx r x) := by
    rw [← List.mem_append, List.take_append_drop]
  rw [e]
  constructor
  · rintro ((h | h) | h)
    · exact .inl (.inl h)
    · exact .inr h
    · exact .inl (.inr h)
  · rintro ((h | h) | h)
    · exact .inl (.inl h)
    · exact .inr h
    · exact .inl (.inr h)
theorem put_front {r : List TimerM} {x y : TimerM} (h : y ∈ r.take (setIx r x)) : timLess y x = true := by
  obtain ⟨q, hq, rfl⟩ := List.mem_iff_getElem.1 h
  rw [List.length_take] at hq
  rw [List.getElem_take]
  exact firstNot_before (fun y => timLess y x) r q (by omega) (by unfold setIx at hq; omega)
theorem put_back {r : List TimerM} {x y : TimerM} (ho : r.Pairwise fun x y => timLess x y = true) (hd : ∀ z ∈ r, z.tid ≠ x.tid) (h : y ∈ r.drop (setIx r x)) : timLess x y = true := by
  obtain ⟨q, hq, rfl⟩ := List.mem_iff_getElem.1 h
  rw [List.length_drop] at hq
  rw [List.getElem_drop]
  have hk : setIx r x < r.length := by omega
  have h0 : timLess r[setIx r x] x = false := firstNot_at (fun y => timLess y x) r hk
  have h1 : timLess x r[setIx r x] = true := timLess_other (by rw [h0]; decide) (hd _ (List.getElem_mem hk))
  rcases Nat.eq_zero_or_pos q with h2 | h2
  · subst h2
    exact h1
  · exact timLess_trans h1 (List.pairwise_iff_getElem.1 ho (setIx r x) (setIx r x + q) hk (by omega) (by omega))
theorem GoodT.put {r : List TimerM} {x : TimerM} (h : GoodT r) (hd : ∀ z ∈ r, z.tid ≠ x.tid) (hx : 0 ≤ x.tid ∧ x.tid ≤ 9 ∧ 0 ≤ x.due ∧ x.due < 40) : GoodT (putT r x) := by
  have hsub : r.take (setIx r x) ++ r.drop (setIx r x) = r := List.take_append_drop _ _
  refine ⟨?_, ?_, fun y hy => ?_⟩
  · have ho := h.ord
    rw [← hsub, List.pairwise_append] at ho
    unfold putT
    rw [List.pairwise_append, List.pairwise_append]
    refine ⟨⟨ho.1, List.pairwise_singleton _ _, fun a ha b hb => ?_⟩, ho.2.1, fun a ha b hb => ?_⟩
    · rw [List.mem_singleton.1 hb]; exact put_front ha
    · rcases List.mem_append.1 ha with h1 | h1
      · exact ho.2.2 a h1 b hb
      · rw [List.mem_singleton.1 h1]; exact put_back h.ord hd hb
  · have ho := h.dis
    rw [← hsub, List.pairwise_append] at ho
    unfold putT
    rw [List.pairwise_append, List.pairwise_append]
    refine ⟨⟨ho.1, List.pairwise_singleton _ _, fun a ha b hb => ?_⟩, ho.2.1, fun a ha b hb => ?_⟩
    · rw [List.mem_singleton.1 hb]; exact hd a (List.mem_of_mem_take ha)
    · rcases List.mem_append.1 ha with h1 | h1
      · exact ho.2.2 a h1 b hb
      · rw [List.mem_singleton.1 h1]; exact (hd b (List.mem_of_mem_drop hb)).symm
  · rcases put_mem.1 hy with h1 | h1
    · exact h.ok y h1
    · rw [h1]; exact hx

/-- The table tells each id's time, or none. -/
structure TabT (l : List TimerM) (ds : List Int) : Prop where
  good : GoodT l
  len : ds.length = 10
  tells : ∀ x ∈ l, ds.getD x.tid.toNat 0 = x.due
  only : ∀ k : Nat, k < 10 → 0 ≤ ds.getD k 0 → ∃ x ∈ l, x.tid = (k : Int) ∧ x.due = ds.getD k 0
theorem getD_set_ne {ds : List Int} {i k : Nat} {v : Int} (h : k ≠ i) : (ds.set i v).getD k 0 = ds.getD k 0 := by simp [List.getD, Ne.symm h]
theorem getD_set_eq {ds : List Int} {i : Nat} {v : Int} (h : i < ds.length) : (ds.set i v).getD i 0 = v := by simp [List.getD, h]
theorem TabT.start (ds : List Int) (h : ds.length = 10) (h2 : ∀ k, k < 10 → ds.getD k 0 = -1) : TabT [] ds :=
  ⟨GoodT.nil, h, fun x hx => absurd hx (by simp), fun k hk h0 => by rw [h2 k hk] at h0; omega⟩
theorem TabT.has {l : List TimerM} {ds : List Int} (h : TabT l ds) {i : Nat} (hi : i < 10) : hasId l (i : Int) = decide (0 ≤ ds.getD i 0) := by
  rw [hasId_off]
  refine decide_eq_decide.2 ⟨fun hlt => ?_, fun h0 => ?_⟩
  · have h1 : ∃ x ∈ l, x.tid = (i : Int) := by
      refine Classical.byContradiction fun hn => ?_
      have : offM l (i : Int) = l := List.filter_eq_self.2 fun x hx => by
        have : x.tid ≠ (i : Int) := fun e => hn ⟨x, hx, e⟩
        simpa using this
      rw [this] at hlt
      omega
    obtain ⟨x, hx, he⟩ := h1
    have h2 := h.tells x hx
    have h3 := h.good.ok x hx
    rw [he, Int.toNat_natCast] at h2
    omega
  · obtain ⟨x, hx, he, _⟩ := h.only i hi h0
    refine Nat.lt_of_le_of_ne (offM_len l i) fun e => ?_
    have h1 : offM l (i : Int) = l := (List.filter_sublist (l := l)).eq_of_length e
    have h2 := (off_mem.1 (show x ∈ offM l (i : Int) by rw [h1]; exact hx)).2
    exact h2 he
theorem TabT.off {l : List TimerM} {ds : List Int} (h : TabT l ds) {i : Nat} (hi : i < 10) : TabT (offM l (i : Int)) (ds.set i (-1)) := by
  refine ⟨h.good.off _, by rw [List.length_set]; exact h.len, fun x hx => ?_, fun k hk h0 => ?_⟩
  · obtain ⟨h1, h2⟩ := off_mem.1 hx
    have h3 := h.good.ok x h1
    rw [getD_set_ne (by omega)]
    exact h.tells x h1
  · by_cases e : k = i
    · subst e
      rw [getD_set_eq (by rw [h.len]; exact hk)] at h0
      omega
    · rw [getD_set_ne e] at h0 ⊢
      obtain ⟨x, hx, h1, h2⟩ := h.only k hk h0
      exact ⟨x, off_mem.2 ⟨hx, by omega⟩, h1, h2⟩
theorem TabT.put {l : List TimerM} {ds : List Int} (h : TabT l ds) {i : Nat} {t : Int} (hi : i < 10) (ht : 0 ≤ t ∧ t < 40) : TabT (putT (offM l (i : Int)) ⟨(i : Int), t⟩) (ds.set i t) := by
  have ho := h.off hi
  refine ⟨ho.good.put (fun z hz => (off_mem.1 hz).2) (by simp only; omega), by rw [List.length_set]; exact h.len, fun x hx => ?_, fun k hk h0 => ?_⟩
  · rcases put_mem.1 hx with h1 | h1
    · obtain ⟨h2, h3⟩ := off_mem.1 h1
      have h4 := h.good.ok x h2
      rw [getD_set_ne (by omega)]
      exact h.tells x h2
    · rw [h1]
      simp only [Int.toNat_natCast]
      exact getD_set_eq (by rw [h.len]; exact hi)
  · by_cases e : k = i
    · subst e
      exact ⟨⟨(k : Int), t⟩, put_mem.2 (.inr rfl), rfl, (getD_set_eq (by rw [h.len]; exact hk)).symm⟩
    · rw [getD_set_ne e] at h0 ⊢
      obtain ⟨x, hx, h1, h2⟩ := h.only k hk h0
      exact ⟨x, put_mem.2 (.inl (off_mem.2 ⟨hx, by omega⟩)), h1, h2⟩
theorem TabT.lt {l : List TimerM} {ds : List Int} (h : TabT l ds) {k : Nat} (hk : k < 10) : ds.getD k 0 < 40 := by
  rcases Int.lt_or_le (ds.getD k 0) 0 with h1 | h1
  · omega
  · obtain ⟨x, hx, _, h2⟩ := h.only k hk h1
    have := h.good.ok x hx
    omega
theorem off_le (l : List TimerM) (i : Int) : (offM l i).length ≤ l.length := offM_len l i

/-- Those due. -/
def dueL (l : List TimerM) (now : Int) : List TimerM := l.filter fun x => decide (x.due ≤ now)
theorem dueM_eq {l : List TimerM} {now : Int} (h : timersB l = true) : dueM l now = (dueL l now).map fun x => x.tid := by
  unfold dueM dueN dueL
  rw [if_pos h, List.take_length]
def manyN (ds : List Int) (now : Int) (k : Nat) : Nat := ((List.range k).filter fun j => decide (0 ≤ ds.getD j 0) && decide (ds.getD j 0 ≤ now)).length
theorem manyN_yes {ds : List Int} {now : Int} {k : Nat} (h : 0 ≤ ds.getD k 0) (h2 : ds.getD k 0 ≤ now) : manyN ds now (k + 1) = manyN ds now k + 1 := by
  unfold manyN
  rw [List.range_succ, List.filter_append, List.length_append, List.filter_cons, if_pos (by rw [decide_eq_true h, decide_eq_true h2]; rfl)]
  rfl
theorem manyN_no {ds : List Int} {now : Int} {k : Nat} (h : ¬ (0 ≤ ds.getD k 0 ∧ ds.getD k 0 ≤ now)) : manyN ds now (k + 1) = manyN ds now k := by
  unfold manyN
  rw [List.range_succ, List.filter_append, List.length_append, List.filter_cons]
  have : (decide (0 ≤ ds.getD k 0) && decide (ds.getD k 0 ≤ now)) = false := by
    rw [Bool.eq_false_iff]
    intro h1
    rw [Bool.and_eq_true, decide_eq_true_eq, decide_eq_true_eq] at h1
    exact h h1
  rw [if_neg (by rw [this]; decide)]
  rfl
theorem manyN_le (ds : List Int) (now : Int) (k : Nat) : manyN ds now k ≤ k := by
  unfold manyN
  exact Nat.le_trans (List.length_filter_le _ _) (by simp)
theorem TabT.many {l : List TimerM} {ds : List Int} (h : TabT l ds) (now : Int) : (dueL l now).length = manyN ds now 10 := by
  have hp : ((dueL l now).map fun x => x.tid.toNat).Perm ((List.range 10).filter fun j => decide (0 ≤ ds.getD j 0) && decide (ds.getD j 0 ≤ now)) := by
    refine (List.perm_ext_iff_of_nodup ?_ (List.nodup_range.filter _)).2 fun k => ?_
    · rw [List.nodup_iff_pairwise_ne, List.pairwise_map]
      refine List.Pairwise.imp_of_mem ?_ (h.good.dis.filter fun x => decide (x.due ≤ now))
      intro a b ha hb hne he
      have h1 := h.good.ok a (List.mem_filter.1 ha).1
      have h2 := h.good.ok b (List.mem_filter.1 hb).1
      exact hne (by omega)
    · rw [List.mem_map, List.mem_filter, List.mem_range, Bool.and_eq_true, decide_eq_true_eq, decide_eq_true_eq]
      constructor
      · rintro ⟨x, hx, rfl⟩
        obtain ⟨h1, h2⟩ := List.mem_filter.1 hx
        have h3 := h.good.ok x h1
        rw [h.tells x h1]
        exact ⟨by omega, by omega, by simpa using h2⟩
      · rintro ⟨hk, h1, h2⟩
        obtain ⟨x, hx, h3, h4⟩ := h.only k hk h1
        exact ⟨x, List.mem_filter.2 ⟨hx, by simp; omega⟩, by omega⟩
  have := hp.length_eq
  rw [List.length_map] at this
  exact this
/-- The first time so far. -/
def FirstT (ds : List Int) (k : Nat) (f : Int) : Prop := (f = -1 ∧ ∀ j, j < k → ds.getD j 0 < 0) ∨ (0 ≤ f ∧ (∃ j, j < k ∧ ds.getD j 0 = f) ∧ ∀ j, j < k → 0 ≤ ds.getD j 0 → f ≤ ds.getD j 0)
theorem FirstT.zero (ds : List Int) : FirstT ds 0 (-1) := .inl ⟨rfl, fun j hj => absurd hj (by omega)⟩
theorem FirstT.take {ds : List Int} {k : Nat} {f : Int} (h : FirstT ds k f) (h0 : 0 ≤ ds.getD k 0) (h1 : f < 0 ∨ ds.getD k 0 < f) : FirstT ds (k + 1) (ds.getD k 0) := by
  refine .inr ⟨h0, ⟨k, by omega, rfl⟩, fun j hj hj0 => ?_⟩
  rcases Nat.lt_or_ge j k with h2 | h2
  · rcases h with ⟨_, h3⟩ | ⟨h3, _, h4⟩
    · have := h3 j h2; omega
    · have := h4 j h2 hj0; omega
  · obtain rfl : j = k := by omega
    omega
theorem FirstT.skip {ds : List Int} {k : Nat} {f : Int} (h : FirstT ds k f) (h1 : 0 ≤ ds.getD k 0 → ¬ (f < 0 ∨ ds.getD k 0 < f)) : FirstT ds (k + 1) f := by
  rcases h with ⟨h2, h3⟩ | ⟨h2, ⟨j0, h5, h6⟩, h4⟩
  · refine .inl ⟨h2, fun j hj => ?_⟩
    rcases Nat.lt_or_ge j k with h7 | h7
    · exact h3 j h7
    · obtain rfl : j = k := by omega
      omega
  · refine .inr ⟨h2, ⟨j0, by omega, h6⟩, fun j hj hj0 => ?_⟩
    rcases Nat.lt_or_ge j k with h7 | h7
    · exact h4 j h7 hj0
    · obtain rfl : j = k := by omega
      omega
theorem TabT.first {l : List TimerM} {ds : List Int} (h : TabT l ds) (hl : l.length ≤ 16) {f : Int} (hf : FirstT ds 10 f) : ((nextM l).2 = decide (0 ≤ f)) ∧ ((nextM l).2 = true → (nextM l).1 = f) := by
  unfold nextM
  rw [if_pos (h.good.yes hl)]
  cases l with
  | nil =>
    have hn : f = -1 := by
      rcases hf with ⟨h1, _⟩ | ⟨h1, ⟨j, hj, h2⟩, _⟩
      · exact h1
      · obtain ⟨x, hx, _⟩ := h.only j hj (by omega)
        cases hx
    subst hn
    exact ⟨rfl, fun h => by cases h⟩
  | cons x r =>
    have h1 := h.tells x (by simp)
    have h2 := h.good.ok x (by simp)
    rcases hf with ⟨_, h3⟩ | ⟨h0, ⟨j, hj, h4⟩, h5⟩
    · have := h3 x.tid.toNat (by omega)
      omega
    · have h6 := h5 x.tid.toNat (by omega) (by omega)
      obtain ⟨y, hy, _, h7⟩ := h.only j hj (by omega)
      have h8 : x.due ≤ y.due := by
        rcases List.mem_cons.1 hy with rfl | h9
        · omega
        · have := (List.pairwise_cons.1 h.good.ord).1 y h9
          rw [timLess_iff] at this
          omega
      exact ⟨(decide_eq_true h0).symm, fun _ => by show x.due = f; omega⟩
theorem dueL_at {l : List TimerM} {ds : List Int} (h : TabT l ds) {now : Int} {i : Nat} (hi : i < (dueL l now).length) :
    0 ≤ (dueL l now)[i].tid ∧ (dueL l now)[i].tid ≤ 9 ∧ 0 ≤ (dueL l now)[i].due ∧ (dueL l now)[i].due < 40 ∧ (dueL l now)[i].due ≤ now ∧ ds.getD (dueL l now)[i].tid.toNat 0 = (dueL l now)[i].due := by
  obtain ⟨h1, h2⟩ := List.mem_filter.1 (List.getElem_mem hi)
  have h3 := h.good.ok _ h1
  exact ⟨h3.1, h3.2.1, h3.2.2.1, h3.2.2.2, by simpa using h2, h.tells _ h1⟩
def keyT (x : TimerM) : Int := x.due * 100 + x.tid
def lastT (l : List TimerM) (i : Nat) : Int := if h : i - 1 < l.length ∧ 0 < i then keyT (l[i - 1]'h.1) else -1
theorem lastT_zero (l : List TimerM) : lastT l 0 = -1 := by unfold lastT; rw [dif_neg (by omega)]
theorem lastT_succ {l : List TimerM} {i : Nat} (hi : i < l.length) : lastT l (i + 1) = keyT l[i] := by
  unfold lastT
  rw [dif_pos ⟨by omega, by omega⟩]
  rfl
theorem dueL_rise {l : List TimerM} {ds : List Int} (h : TabT l ds) {now : Int} {i : Nat} (hi : i < (dueL l now).length) : lastT (dueL l now) i < keyT (dueL l now)[i] := by
  have h2 := dueL_at h hi
  cases i with
  | zero =>
    rw [lastT_zero]
    unfold keyT
    omega
  | succ k =>
    rw [lastT_succ (show k < (dueL l now).length by omega)]
    have h1 := List.pairwise_iff_getElem.1 (h.good.ord.filter fun x => decide (x.due ≤ now)) k (k + 1) (by unfold dueL at hi; omega) hi (by omega)
    have h3 := dueL_at h (show k < (dueL l now).length by omega)
    rw [timLess_iff] at h1
    unfold keyT
    unfold dueL at *
    omega

end Go.Proofs.Ythekcaahkokjfaa

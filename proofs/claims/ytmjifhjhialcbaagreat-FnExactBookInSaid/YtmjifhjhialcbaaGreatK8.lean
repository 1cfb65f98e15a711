/- Parts of my texts: EntM MarkM MarkN HeadM Move HeadC MarkC. -/
import Derived.Test.YtmjifhjhialcbaaGreatK4
import Derived.Test.YtmjifhjhialcbaaGreatK5
import Derived.Test.YtmjifhjhialcbaaGreatK6
import Derived.Laws.IdiomCopy
namespace Go.Proofs.YtmjifhjhialcbaaGreat
set_option maxRecDepth 100000
set_option linter.unusedVariables false
open Go.RowKit
def inB (x lo hi : Int) : Bool := decide (lo ≤ x) && decide (x ≤ hi)
theorem inB_iff (x lo hi : Int) : inB x lo hi = true ↔ lo ≤ x ∧ x ≤ hi := by simp [inB]
def opB (o : OpM) : Bool :=
 if o.kind = 1 then inB o.a 0 9 && (inB o.b 0 999 && (decide (o.c = 0) && decide (o.d = 0)))
 else if o.kind = 2 then inB o.a 0 9 && (decide (o.b = 0) && (decide (o.c = 0) && decide (o.d = 0)))
 else if o.kind = 3 then inB o.a 1 20 && (inB o.b 0 1000000 && (inB o.c 0 9 && inB o.d 0 999))
 else if o.kind = 4 then inB o.a 1 20 && (inB o.b 0 1000 && (decide (o.c = 0) && decide (o.d = 0)))
 else if o.kind = 5 then inB o.a 1 1000 && (decide (o.b = 0) && (decide (o.c = 0) && decide (o.d = 0)))
 else false
def EntM.op (e : EntM) : OpM := ⟨e.kd, e.oa, e.ob, e.oc, e.od⟩
def askB (x : Int) : Bool := inB x 2 5
def entB (e : EntM) : Bool := inB e.idx 1 2000 && (inB e.tm 0 1000000 && (askB e.cl && (inB e.sq 1 2000 && opB e.op)))
def op0 : OpM := ⟨0, 0, 0, 0, 0⟩
def ent0 : EntM := ⟨0, 0, 0, 0, 0, 0, 0, 0, 0⟩
def opNs (o : OpM) : List Int := [o.kind, o.a, o.b, o.c, o.d]
def ofOp (r : List Int) : OpM := ⟨r.getD 0 0, r.getD 1 0, r.getD 2 0, r.getD 3 0, r.getD 4 0⟩
def rowOpM (r : List Int) : OpM × Bool := if r.length = 5 then (if opB (ofOp r) = true then (ofOp r, true) else (op0, false)) else (op0, false)
def entRowM (e : EntM) : List Int := if entB e = true then entNs e else []
def ofEnt (r : List Int) : EntM := ⟨r.getD 0 0, r.getD 1 0, r.getD 2 0, r.getD 3 0, r.getD 4 0, r.getD 5 0, r.getD 6 0, r.getD 7 0, r.getD 8 0⟩
def rowEntM (r : List Int) : EntM × Bool := if r.length = 9 then (if entB (ofEnt r) = true then (ofEnt r, true) else (ent0, false)) else (ent0, false)
def nextAt (l : List EntM) (j : Nat) : Bool := decide (j = 0) || (decide ((l.getD j ent0).idx = (l.getD (j - 1) ent0).idx + 1) && decide ((l.getD (j - 1) ent0).tm ≤ (l.getD j ent0).tm))
def entsAt (l : List EntM) (j : Nat) : Bool := entB (l.getD j ent0) && nextAt l j
def entsB (l : List EntM) : Bool := decide (l.length ≤ 2000) && (List.range l.length).all (entsAt l)
theorem egetD {l : List EntM} {j : Nat} (hj : j < l.length) : l.getD j ent0 = l[j] := by simp [List.getD, List.getElem?_eq_getElem hj]
theorem entB_op {e : EntM} (h : entB e = true) : opB e.op = true := by
 unfold entB at h
 simp only [Bool.and_eq_true] at h
 exact h.2.2.2.2
theorem entB_iff (e : EntM) : entB e = true ↔ (1 ≤ e.idx ∧ e.idx ≤ 2000) ∧ (0 ≤ e.tm ∧ e.tm ≤ 1000000) ∧ (2 ≤ e.cl ∧ e.cl ≤ 5) ∧ (1 ≤ e.sq ∧ e.sq ≤ 2000) ∧ opB e.op = true := by
 unfold entB askB
 simp only [Bool.and_eq_true, inB_iff]
theorem entsB_iff (l : List EntM) : entsB l = true ↔ l.length ≤ 2000 ∧ ∀ j, j < l.length → entsAt l j = true := by
 unfold entsB
 simp only [Bool.and_eq_true, decide_eq_true_eq, List.all_eq_true, List.mem_range]
theorem entsB_long {l : List EntM} (h : 2000 < l.length) : entsB l = false := by
 unfold entsB
 rw [decide_eq_false (by omega), Bool.false_and]
theorem entsB_step {l : List EntM} {j : Nat} (hj : j < l.length) (h : entsAt l j = false) : entsB l = false := by
 rw [Bool.eq_false_iff]
 intro h2
 have := ((entsB_iff l).1 h2).2 j hj
 rw [h] at this
 cases this
theorem entsB_end {l : List EntM} (h : l.length ≤ 2000) (h2 : ∀ j, j < l.length → entsAt l j = true) : entsB l = true := (entsB_iff l).2 ⟨h, h2⟩
theorem nextAt_succ {l : List EntM} {k : Nat} (h : k + 1 < l.length) : nextAt l (k + 1) = (decide (l[k + 1].idx = l[k].idx + 1) && decide (l[k].tm ≤ l[k + 1].tm)) := by
 unfold nextAt
 rw [Nat.add_sub_cancel, egetD h, egetD (show k < l.length by omega), decide_eq_false (by omega), Bool.false_or]
theorem entsAt_eq {l : List EntM} {j : Nat} (hj : j < l.length) : entsAt l j = (entB l[j] && nextAt l j) := by
 unfold entsAt
 rw [egetD hj]
def mark0 : MarkM := ⟨0, 0, 0⟩
def markB (x : MarkM) : Bool := askB x.mc && (inB x.ms 1 2000 && inB x.mi 1 2000)
theorem mgetD {l : List MarkM} {j : Nat} (hj : j < l.length) : l.getD j mark0 = l[j] := by simp [List.getD, List.getElem?_eq_getElem hj]
theorem markB_iff (x : MarkM) : markB x = true ↔ (2 ≤ x.mc ∧ x.mc ≤ 5) ∧ (1 ≤ x.ms ∧ x.ms ≤ 2000) ∧ (1 ≤ x.mi ∧ x.mi ≤ 2000) := by
 unfold markB askB
 simp only [Bool.and_eq_true, inB_iff]
def freeTo (l : List MarkM) (j k : Nat) : Bool := (List.range k).all fun q => decide ((l.getD q mark0).mi ≠ (l.getD j mark0).mi)
def riseAt (l : List MarkM) (j : Nat) : Bool := decide (j = 0) || decide ((l.getD (j - 1) mark0).mc < (l.getD j mark0).mc)
def seenAt (l : List MarkM) (j : Nat) : Bool := (markB (l.getD j mark0) && riseAt l j) && freeTo l j j
def seenB (l : List MarkM) : Bool := decide (l.length ≤ 4) && (List.range l.length).all (seenAt l)
theorem seenB_iff (l : List MarkM) : seenB l = true ↔ l.length ≤ 4 ∧ ∀ j, j < l.length → seenAt l j = true := by
 unfold seenB
 simp only [Bool.and_eq_true, decide_eq_true_eq, List.all_eq_true, List.mem_range]
theorem seenB_long {l : List MarkM} (h : 4 < l.length) : seenB l = false := by
 unfold seenB
 rw [decide_eq_false (by omega), Bool.false_and]
theorem seenB_step {l : List MarkM} {j : Nat} (hj : j < l.length) (h : seenAt l j = false) : seenB l = false := by
 rw [Bool.eq_false_iff]
 intro h2
 have := ((seenB_iff l).1 h2).2 j hj
 rw [h] at this
 cases this
theorem freeTo_iff (l : List MarkM) (j k : Nat) : freeTo l j k = true ↔ ∀ q, q < k → (l.getD q mark0).mi ≠ (l.getD j mark0).mi := by
 unfold freeTo
 simp only [List.all_eq_true, List.mem_range, decide_eq_true_eq]
theorem freeTo_no {l : List MarkM} {j k q : Nat} (hq : q < k) (h : (l.getD q mark0).mi = (l.getD j mark0).mi) : freeTo l j k = false := by
 rw [Bool.eq_false_iff]
 intro h2
 exact (freeTo_iff l j k).1 h2 q hq h
theorem seen_mark {l : List MarkM} (h : seenB l = true) {j : Nat} (hj : j < l.length) : markB l[j] = true := by
 have h1 := ((seenB_iff l).1 h).2 j hj
 unfold seenAt at h1
 rw [mgetD hj, Bool.and_eq_true, Bool.and_eq_true] at h1
 exact h1.1.1
theorem seen_len {l : List MarkM} (h : seenB l = true) : l.length ≤ 4 := ((seenB_iff l).1 h).1
def findM (l : List MarkM) (c : Int) : MarkM := (l.find? fun x => x.mc == c).getD mark0
def markOf (l : List MarkM) (c : Int) : MarkM := if seenB l = true then findM l c else mark0
def noneTo (l : List MarkM) (c : Int) (j : Nat) : Prop := ∀ q, q < j → (l.getD q mark0).mc ≠ c
theorem findM_at {l : List MarkM} {c : Int} : ∀ {j : Nat} (hj : j < l.length), noneTo l c j → l[j].mc = c → findM l c = l[j] := by
 induction l with
 | nil => intro j hj; exact absurd hj (by simp)
 | cons x t ih =>
  intro j hj hn he
  unfold findM
  rw [List.find?_cons]
  cases j with
  | zero =>
   have e : (x.mc == c) = true := by simpa using he
   rw [e]
   rfl
  | succ k =>
   have h0 := hn 0 (by omega)
   have e : (x.mc == c) = false := by simpa using h0
   rw [e]
   have hk : k < t.length := by simpa using hj
   have := ih hk (fun q hq => by have := hn (q + 1) (by omega); simpa using this) (by simpa using he)
   unfold findM at this
   rw [this]
   simp
theorem findM_none {l : List MarkM} {c : Int} (h : noneTo l c l.length) : findM l c = mark0 := by
 unfold findM
 rw [List.find?_eq_none.2 fun x hx => ?_]
 · rfl
 · obtain ⟨j, hj, rfl⟩ := List.getElem_of_mem hx
   have := h j hj
   rw [mgetD hj] at this
   simpa using this
def freshB (l : List MarkM) (c s : Int) : Bool := seenB l && (askB c && (inB s 1 2000 && decide ((markOf l c).ms < s)))
def maxTo (l : List MarkM) (j : Nat) : Int := (l.take j).foldl (fun a x => max a x.mi) 0
def lastS (l : List MarkM) : Int := if seenB l = true then maxTo l l.length else 0
theorem maxTo_step {l : List MarkM} {j : Nat} (hj : j < l.length) : maxTo l (j + 1) = max (maxTo l j) l[j].mi := by
 unfold maxTo
 rw [List.take_succ_eq_append_getElem hj, List.foldl_append]
 rfl
theorem maxTo_zero (l : List MarkM) : maxTo l 0 = 0 := by
 unfold maxTo
 rw [List.take_zero]
 rfl
def insM (l : List MarkM) (x : MarkM) : List MarkM := (l.filter fun y => decide (y.mc < x.mc)) ++ x :: (l.filter fun y => decide (x.mc < y.mc))
def mayB (l : List MarkM) (e : EntM) : Bool := entB e && (freshB l e.cl e.sq && decide (lastS l < e.idx))
def markedM (l : List MarkM) (e : EntM) : List MarkM × Bool := if seenB l = true then (if mayB l e = true then (insM l ⟨e.cl, e.sq, e.idx⟩, true) else (l, false)) else ([], false)
def overM (l : List MarkM) (es : List EntM) : List MarkM := es.foldl (fun a e => insM a ⟨e.cl, e.sq, e.idx⟩) l
def overAt (l : List MarkM) (es : List EntM) (j : Nat) : Bool := mayB (overM l (es.take j)) (es.getD j ent0)
def overB (l : List MarkM) (es : List EntM) : Bool := (List.range es.length).all (overAt l es)
def seenOverM (l : List MarkM) (es : List EntM) : List MarkM × Bool := if seenB l = true then (if es.length ≤ 2000 then (if overB l es = true then (overM l es, true) else (l, false)) else (l, false)) else ([], false)
theorem overM_step {l : List MarkM} {es : List EntM} {j : Nat} (hj : j < es.length) : overM l (es.take (j + 1)) = insM (overM l (es.take j)) ⟨es[j].cl, es[j].sq, es[j].idx⟩ := by
 unfold overM
 rw [List.take_succ_eq_append_getElem hj, List.foldl_append]
 rfl
theorem seenAt_all {l : List MarkM} (h : seenB l = true) {j : Nat} (hj : j < l.length) : markB l[j] = true ∧ (∀ k, k + 1 = j → (l.getD k mark0).mc < l[j].mc) ∧ ∀ q, q < j → (l.getD q mark0).mi ≠ l[j].mi := by
 have h1 := ((seenB_iff l).1 h).2 j hj
 unfold seenAt riseAt at h1
 rw [mgetD hj, Bool.and_eq_true, Bool.and_eq_true, freeTo_iff, mgetD hj] at h1
 refine ⟨h1.1.1, fun k hk => ?_, h1.2⟩
 have h2 := h1.1.2
 subst hk
 rw [decide_eq_false (show ¬ k + 1 = 0 by omega), Bool.false_or, decide_eq_true_eq, Nat.add_sub_cancel] at h2
 exact h2
theorem seen_rise {l : List MarkM} (h : seenB l = true) : ∀ j (hj : j < l.length) q (hq : q < j), (l[q]'(by omega)).mc < l[j].mc := by
 intro j
 induction j with
 | zero => intro _ q hq; exact absurd hq (by omega)
 | succ k ih =>
  intro hj q hq
  have h1 := (seenAt_all h hj).2.1 k rfl
  rw [mgetD (show k < l.length by omega)] at h1
  by_cases e : q = k
  · subst e; exact h1
  · have h2 := ih (by omega) q (by omega)
    omega
theorem seen_pairs {l : List MarkM} (h : seenB l = true) : (∀ x ∈ l, markB x = true) ∧ l.Pairwise (fun a b => a.mc < b.mc) ∧ l.Pairwise (fun a b => a.mi ≠ b.mi) := by
 refine ⟨fun x hx => ?_, ?_, ?_⟩
 · obtain ⟨j, hj, rfl⟩ := List.getElem_of_mem hx
   exact seen_mark h hj
 · rw [List.pairwise_iff_getElem]
   intro i j hi hj hij
   exact seen_rise h j hj i hij
 · rw [List.pairwise_iff_getElem]
   intro i j hi hj hij
   have := (seenAt_all h hj).2.2 i hij
   rwa [mgetD hi] at this
theorem seen_of {l : List MarkM} (h1 : ∀ x ∈ l, markB x = true) (h2 : l.Pairwise (fun a b => a.mc < b.mc)) (h3 : l.Pairwise (fun a b => a.mi ≠ b.mi)) : seenB l = true := by
 rw [List.pairwise_iff_getElem] at h2 h3
 have hlow : ∀ j (hj : j < l.length), (j : Int) + 2 ≤ l[j].mc := by
  intro j
  induction j with
  | zero =>
   intro hj
   have := ((markB_iff _).1 (h1 _ (List.getElem_mem hj))).1
   simp
   omega
  | succ k ih =>
   intro hj
   have h4 := ih (by omega)
   have h5 := h2 k (k + 1) (by omega) hj (by omega)
   omega
 rw [seenB_iff]
 constructor
 · rcases Nat.lt_or_ge 4 l.length with h4 | h4
   · have h5 := hlow 4 h4
     have h6 := ((markB_iff _).1 (h1 _ (List.getElem_mem h4))).1
     omega
   · exact h4
 · intro j hj
   unfold seenAt riseAt
   rw [mgetD hj, h1 _ (List.getElem_mem hj), Bool.true_and, Bool.and_eq_true, freeTo_iff]
   refine ⟨?_, fun q hq => ?_⟩
   · rcases Nat.eq_zero_or_pos j with h0 | h0
     · rw [decide_eq_true h0, Bool.true_or]
     · rw [mgetD (show j - 1 < l.length by omega), decide_eq_true (h2 (j - 1) j (by omega) hj (by omega)), Bool.or_true]
   · rw [mgetD (show q < l.length by omega), mgetD hj]
     exact h3 q j (by omega) hj hq
theorem maxTo_le (l : List MarkM) : ∀ j, j ≤ l.length → ∀ q (_hq : q < j) (hl : q < l.length), l[q].mi ≤ maxTo l j := by
 intro j
 induction j with
 | zero => intro _ q hq; exact absurd hq (by omega)
 | succ k ih =>
  intro hk q hq hl
  rw [maxTo_step (show k < l.length by omega)]
  by_cases e : q = k
  · subst e; omega
  · have := ih (by omega) q (by omega) hl
    omega
theorem lastS_ge {l : List MarkM} (h : seenB l = true) {x : MarkM} (hx : x ∈ l) : x.mi ≤ lastS l := by
 unfold lastS
 rw [if_pos h]
 obtain ⟨j, hj, rfl⟩ := List.getElem_of_mem hx
 exact maxTo_le l l.length (Nat.le_refl _) j hj hj
theorem insM_ok {l : List MarkM} {x : MarkM} (h : seenB l = true) (hx : markB x = true) (hm : lastS l < x.mi) : seenB (insM l x) = true := by
 obtain ⟨h1, h2, h3⟩ := seen_pairs h
 have hne : ∀ y ∈ l, ∀ z ∈ l, y ≠ z → y.mi ≠ z.mi := by
  intro y hy z hz hyz
  obtain ⟨i, hi, rfl⟩ := List.getElem_of_mem hy
  obtain ⟨j, hj, rfl⟩ := List.getElem_of_mem hz
  rw [List.pairwise_iff_getElem] at h3
  rcases Nat.lt_trichotomy i j with h4 | h4 | h4
  · exact h3 i j hi hj h4
  · subst h4; exact absurd rfl hyz
  · exact (h3 j i hj hi h4).symm
 unfold insM
 refine seen_of (fun y hy => ?_) ?_ ?_
 · rcases List.mem_append.1 hy with h4 | h4
   · exact h1 y (List.mem_filter.1 h4).1
   · rcases List.mem_cons.1 h4 with rfl | h4
     · exact hx
     · exact h1 y (List.mem_filter.1 h4).1
 · rw [List.pairwise_append, List.pairwise_cons]
   refine ⟨h2.filter _, ⟨fun z hz => by simpa using (List.mem_filter.1 hz).2, h2.filter _⟩, fun y hy z hz => ?_⟩
   have hy2 : y.mc < x.mc := by simpa using (List.mem_filter.1 hy).2
   rcases List.mem_cons.1 hz with rfl | hz
   · exact hy2
   · have hz2 : x.mc < z.mc := by simpa using (List.mem_filter.1 hz).2
     omega
 · rw [List.pairwise_append, List.pairwise_cons]
   refine ⟨h3.filter _, ⟨fun z hz => ?_, h3.filter _⟩, fun y hy z hz => ?_⟩
   · have := lastS_ge h (List.mem_filter.1 hz).1
     omega
   · have hy2 : y.mc < x.mc := by simpa using (List.mem_filter.1 hy).2
     have hy1 := (List.mem_filter.1 hy).1
     rcases List.mem_cons.1 hz with rfl | hz
     · have := lastS_ge h hy1
       omega
     · have hz2 : x.mc < z.mc := by simpa using (List.mem_filter.1 hz).2
       refine hne y hy1 z (List.mem_filter.1 hz).1 (fun e => ?_)
       rw [e] at hy2
       omega
theorem mayB_iff (l : List MarkM) (e : EntM) : mayB l e = true ↔ entB e = true ∧ freshB l e.cl e.sq = true ∧ lastS l < e.idx := by
 unfold mayB
 simp only [Bool.and_eq_true, decide_eq_true_eq]
theorem marked_ok {l : List MarkM} {e : EntM} (h : seenB l = true) (hm : mayB l e = true) : seenB (insM l ⟨e.cl, e.sq, e.idx⟩) = true := by
 obtain ⟨h1, _, h3⟩ := (mayB_iff l e).1 hm
 have h4 := (entB_iff e).1 h1
 exact insM_ok h ((markB_iff _).2 ⟨h4.2.2.1, h4.2.2.2.1, h4.1⟩) h3
theorem overB_iff (l : List MarkM) (es : List EntM) : overB l es = true ↔ ∀ j, j < es.length → overAt l es j = true := by
 unfold overB
 simp only [List.all_eq_true, List.mem_range]
theorem overB_step {l : List MarkM} {es : List EntM} {j : Nat} (hj : j < es.length) (h : overAt l es j = false) : overB l es = false := by
 rw [Bool.eq_false_iff]
 intro h2
 have := (overB_iff l es).1 h2 j hj
 rw [h] at this
 cases this
theorem over_ok {l : List MarkM} {es : List EntM} (h : seenB l = true) : ∀ j, j ≤ es.length → (∀ q, q < j → overAt l es q = true) → seenB (overM l (es.take j)) = true := by
 intro j
 induction j with
 | zero => intro _ _; rw [List.take_zero]; exact h
 | succ k ih =>
  intro hk hall
  have h1 := ih (by omega) fun q hq => hall q (by omega)
  have h2 := hall k (by omega)
  unfold overAt at h2
  rw [egetD (show k < es.length by omega)] at h2
  rw [overM_step (show k < es.length by omega)]
  exact marked_ok h1 h2
def headOkB (t : HeadM) : Bool := inB t.base 0 2000 && (inB t.num 0 t.base && (inB t.tm 0 1000000 && ((decide (0 < t.base) || decide (t.tm = 0)) && (seenB t.seen && decide (lastS t.seen = t.base)))))
theorem headOkB_iff (t : HeadM) : headOkB t = true ↔ (0 ≤ t.base ∧ t.base ≤ 2000) ∧ (0 ≤ t.num ∧ t.num ≤ t.base) ∧ (0 ≤ t.tm ∧ t.tm ≤ 1000000) ∧ (0 < t.base ∨ t.tm = 0) ∧ seenB t.seen = true ∧ lastS t.seen = t.base := by
 unfold headOkB
 simp only [Bool.and_eq_true, Bool.or_eq_true, inB_iff, decide_eq_true_eq]
def twice (r : List Int) (n : Nat) : Bool := decide (r.length = n + 2) && (decide (r.getD n 0 = r.getD 0 0) && decide (r.getD (n + 1) 0 = r.getD 0 0))
theorem twice_iff (r : List Int) (n : Nat) : twice r n = true ↔ r.length = n + 2 ∧ r.getD n 0 = r.getD 0 0 ∧ r.getD (n + 1) 0 = r.getD 0 0 := by
 unfold twice
 simp only [Bool.and_eq_true, decide_eq_true_eq]
theorem twice_no {r : List Int} {n : Nat} (h : ¬ (r.length = n + 2 ∧ r.getD n 0 = r.getD 0 0 ∧ r.getD (n + 1) 0 = r.getD 0 0)) : twice r n = false := by
 rw [Bool.eq_false_iff]
 intro h2
 exact h ((twice_iff r n).1 h2)
def slotRowM (e : EntM) : List Int := if entB e = true then entNs e ++ [e.idx, e.idx] else []
theorem slotRowM_len (e : EntM) : (slotRowM e).length ≤ 11 := by
 unfold slotRowM
 split <;> simp [entNs]
def rowSlotM (r : List Int) : EntM × Bool := if twice r 9 = true then rowEntM (r.take 9) else (ent0, false)
def slotOfM (i : Int) : Int := if inB i 1 2000 = true then 2 + i % 20 else -1
def keptB (t : TwoM) : Bool := twoOk t && decide (t.a.kept.length = 22)
section
variable {α : Type} {w w' : World} {e : TypeId} {k : Nat} {f : α → List Dat} {l : List α} {fp : List Nat}
def Src (w : World) (A : Option Addr) (m k : Nat) (us : List Value) : Prop := 0 < m → ∃ b off, A = some ⟨b, off, none⟩ ∧ ∀ i, i < m * k → w.cell? ⟨b, off + i, none⟩ = us[i]?
theorem append_many {P : Program} {t ty : TypeId} {z : Value} {bytes : Nat} {A A' : Option Addr} {n c m c' : Nat} {us2 : List Value} {f2 : List Nat} {l2 : List α} (ht : P.underlying t = some (.slice e))
    (hinfo : (P.info? e).map (fun i => (i.zero, i.size, i.bytes)) = some (some z, k, bytes)) (hzs : z.cells.size = k) (k0 : 0 < k) (hk : ∀ x, (f x).length = k)
    (h : Ow w [Go.Proofs.YtmjifhjhialcbaaGreat.lst e k f l] [.slice A n c] fp) (hn : fp.Nodup) (hsrc : Src w A' m k us2) (ho : Ow w (l2.flatMap f) us2 f2) (hl2 : l2.length = m) (hn2 : f2.Nodup) (hd : ∀ p ∈ f2, p ∉ fp) (hl : n + m ≤ 2097154) (hby : bytes ≤ 1048576) :
    ∃ A3 c3 w3 fp3, (Builtin.append_ #[t, t] ty #[.slice A n c, .slice A' m c']).run P w = .ok (.slice A3 (n + m) c3) w3 ∧ Ow w3 [Go.Proofs.YtmjifhjhialcbaaGreat.lst e k f (l ++ l2)] [.slice A3 (n + m) c3] fp3 ∧ fp3.Nodup ∧ (∀ p ∈ fp3, p ∈ fp ∨ p ∈ f2 ∨ p = w.heap.size) ∧ Touch fp w w3 := by
 obtain ⟨i0, hi0, hz⟩ := Option.map_eq_some_iff.1 hinfo
 simp only [Prod.mk.injEq] at hz
 obtain ⟨hz0, hz1, hz2⟩ := hz
 rcases A' with _ | ad
 · have hm : m = 0 := by
     rcases Nat.eq_zero_or_pos m with h0 | h0
     · exact h0
     · obtain ⟨b, off, e, _⟩ := hsrc h0; cases e
   subst hm
   have hl0 : l2 = [] := List.eq_nil_of_length_eq_zero hl2
   subst hl0
   have hf2 : f2 = [] := by
    have h0 : us2 = [] := by
     have := ho.len
     exact List.eq_nil_of_length_eq_zero (by simpa using this)
    subst h0
    exact Ow.nil_foot ho
   refine ⟨A, c, w, fp, ?_, by simpa using h, hn, fun p hp => .inl hp, Touch.refl _ _⟩
   obtain ⟨us, fp1, h1, _, _⟩ := h.lst hk k0
   rcases h1.2 with ⟨hv, h0⟩ | ⟨g, cap, cur, hv, _, _, hnc, _⟩
   · injection hv with h1 h2 h3
     subst h1 h2 h3
     simp [Builtin.append_, run_underlying ht, sizeOf, typeInfo, hi0, Builtin.lenOf, Builtin.firstCells]
   · injection hv with h1 h2 h3
     subst h1 h3
     have hnc' : n ≤ c := by omega
     simp [Builtin.append_, run_underlying ht, sizeOf, typeInfo, hi0, Builtin.lenOf, Builtin.firstCells, hnc', storeCells]
 · obtain ⟨us, fp1, h1, h2, rfl⟩ := h.lst hk k0
   have hnl : n = l.length := by
    rcases h1.2 with ⟨h0, h9⟩ | ⟨_, _, _, h0, _⟩
    · injection h0; omega
    · injection h0
   rw [← hnl] at h1
   have hle : us2.length = m * k := by rw [ho.len, flatMap_len hk, hl2]
   obtain ⟨v', w', hrun, q2, q3, _, q5⟩ := run_append_own_at (P := P) w 0 t ty e i0 _ k bytes ht hi0 hz0 hz1 hz2 hzs k0 _ n _ h1 ad m c' us2 hle
    (by intro j u hj
        have hjm : j < m * k := by
         rcases Nat.lt_or_ge j us2.length with h | h
         · omega
         · rw [List.getElem?_eq_none h] at hj; cases hj
        have hm0 : 0 < m := by
         rcases Nat.eq_zero_or_pos m with h0 | h0
         · subst h0; simp at hjm
         · exact h0
        obtain ⟨b, off, e1, hc⟩ := hsrc hm0
        injection e1 with e1
        subst e1
        have hadd : (⟨b, off, none⟩ : Addr).add j = ⟨b, off + j, none⟩ := by unfold Addr.add; split <;> simp_all
        rw [hadd, hc j hjm, hj])
    ho.one (by simp only [maxLen]; omega)
    (by have : (n + m) * bytes ≤ 2097154 * 1048576 := Nat.mul_le_mul (by omega) hby
        omega) (Nat.zero_le _)
   have hlt := h.lt
   have tt : Touch (Value.slice A n c).ownBlock.toList w w' := Touch.of_grown q3 (fun p hp => by rw [hp]; simp)
   have hn' := hn
   rw [List.nodup_append] at hn'
   have hap : (l ++ l2).flatMap f = l.flatMap f ++ l2.flatMap f := by simp
   have o1 := h2.touch tt (fun p hp hm => hn'.2.2 p hm p hp rfl)
   have o2 := ho.touch tt (fun p hp hm => hd p hp (List.mem_append_left _ hm))
   have o3 := o1.append o2
   rw [← hap] at o3
   have key : ∃ A3 c3, v' = .slice A3 (n + m) c3 := by
    rcases q2.2 with ⟨hv, hnm⟩ | ⟨g, cap, cur, hv, _⟩
    · exact ⟨none, 0, by rw [hv, hnm]⟩
    · exact ⟨_, _, hv⟩
   obtain ⟨A3, c3, hv⟩ := key
   subst hv
   have hgnew : ∀ p ∈ fp1 ++ f2, p ∉ (Value.slice A3 (n + m) c3).ownBlock.toList := by
    intro p hp hm
    rcases q5 with q5 | q5
    · rw [q5] at hm
      rcases List.mem_append.1 hp with hp | hp
      · exact hn'.2.2 p hm p hp rfl
      · exact hd p hp (List.mem_append_left _ hm)
    · rw [q5] at hm
      have e2 : p = w.heap.size := by simpa using hm
      rcases List.mem_append.1 hp with hp | hp
      · have := hlt p (List.mem_append_right _ hp); omega
      · have := ho.lt p hp; omega
   refine ⟨A3, c3, w', _, hrun, Ow.of_lst q2 o3, ?_, fun p hp => ?_, tt.mono fun p hp => List.mem_append_left _ hp⟩
   · rw [List.nodup_append, List.nodup_append]
     refine ⟨by cases (Value.slice A3 (n + m) c3).ownBlock <;> simp, ⟨hn'.2.1, hn2, fun p hp q hq e => hd q hq (by subst e; exact List.mem_append_right _ hp)⟩, fun p hp q hq e => ?_⟩
     subst e
     exact hgnew p hq hp
   · rcases List.mem_append.1 hp with hp | hp
     · rcases q5 with q5 | q5
       · rw [q5] at hp
         exact .inl (List.mem_append_left _ hp)
       · rw [q5] at hp
         right; right
         simpa using hp
     · rcases List.mem_append.1 hp with hp | hp
       · exact .inl (List.mem_append_right _ hp)
       · exact .inr (.inl hp)
theorem wp_append_many {P : Program} {t : TypeId} {z : Value} {bytes : Nat} {A A' : Option Addr} {n c m c' : Nat} {us2 : List Value} {f2 : List Nat} {l2 : List α} {op : Oper} {a : Act} {Q : Exit → Act → World → Prop} {K : Act → World → Prop}
    (s x : Operand) (hop : op.op = .call { callee := .builtin .append, args := #[s, x], argTypes := #[t, t] }) (ht : P.underlying t = some (.slice e))
    (hinfo : (P.info? e).map (fun i => (i.zero, i.size, i.bytes)) = some (some z, k, bytes)) (hzs : z.cells.size = k) (k0 : 0 < k) (hk : ∀ x, (f x).length = k)
    (hse : a.eval s = .slice A n c) (h : Ow w [Go.Proofs.YtmjifhjhialcbaaGreat.lst e k f l] [.slice A n c] fp) (hn : fp.Nodup) (hx : a.eval x = .slice A' m c') (hsrc : Src w A' m k us2) (ho : Ow w (l2.flatMap f) us2 f2) (hl2 : l2.length = m) (hn2 : f2.Nodup) (hd : ∀ p ∈ f2, p ∉ fp) (hl : n + m ≤ 2097154) (hby : bytes ≤ 1048576)
    (hK : ∀ A3 c3 w3 fp3, Ow w3 [Go.Proofs.YtmjifhjhialcbaaGreat.lst e k f (l ++ l2)] [.slice A3 (n + m) c3] fp3 → fp3.Nodup → (∀ p ∈ fp3, p ∈ fp ∨ p ∈ f2 ∨ p = w.heap.size) → Touch fp w w3 → K (a.put op.dst (.slice A3 (n + m) c3)) w3) :
    Oper.wp P op a w K Q := by
 obtain ⟨A3, c3, w3, fp3, hrun, a1, a2, a3, a4⟩ := append_many (P := P) (ty := op.type) (c' := c') ht hinfo hzs k0 hk h hn hsrc ho hl2 hn2 hd hl hby
 unfold Oper.wp execOp
 simp only [hop, resolve, invoke, builtin, Sem.run_bind, Sem.run_pure, Result.andThen_ok, List.map_toArray, List.map_cons, List.map_nil, hse, hx, hrun]
 exact hK A3 c3 w3 fp3 a1 a2 a3 a4
theorem wp_append_fresh {P : Program} {t : TypeId} {z : Value} {bytes : Nat} {A A' : Option Addr} {c m c' : Nat} {us2 : List Value} {f2 : List Nat} {l2 : List α} {op : Oper} {a : Act} {Q : Exit → Act → World → Prop} {K : Act → World → Prop}
    (s x : Operand) (hop : op.op = .call { callee := .builtin .append, args := #[s, x], argTypes := #[t, t] }) (ht : P.underlying t = some (.slice e))
    (hinfo : (P.info? e).map (fun i => (i.zero, i.size, i.bytes)) = some (some z, k, bytes)) (hzs : z.cells.size = k) (k0 : 0 < k) (hk : ∀ x, (f x).length = k)
    (hse : a.eval s = .slice A 0 c) (h : Ow w [Go.Proofs.YtmjifhjhialcbaaGreat.lst e k f ([] : List α)] [.slice A 0 c] fp) (hn : fp.Nodup) (hx : a.eval x = .slice A' m c') (hsrc : Src w A' m k us2) (ho : Ow w (l2.flatMap f) us2 f2) (hl2 : l2.length = m) (hn2 : f2.Nodup) (hd : ∀ p ∈ f2, p ∉ fp) (hl : m ≤ 2097154) (hby : bytes ≤ 1048576)
    (hK : ∀ A3 c3 w3 fp3, Ow w3 [Go.Proofs.YtmjifhjhialcbaaGreat.lst e k f l2] [.slice A3 m c3] fp3 → fp3.Nodup → (∀ p ∈ fp3, p ∈ fp ∨ p ∈ f2 ∨ p = w.heap.size) → Touch fp w w3 → K (a.put op.dst (.slice A3 m c3)) w3) :
    Oper.wp P op a w K Q := by
 refine wp_append_many s x hop ht hinfo hzs k0 hk hse h hn hx hsrc ho hl2 hn2 hd (by omega) hby ?_
 intro A3 c3 w3 fp3 a1 a2 a3 a4
 rw [Nat.zero_add] at a1 ⊢
 exact hK A3 c3 w3 fp3 a1 a2 a3 a4
theorem wpList_append_fresh {P : Program} {t : TypeId} {z : Value} {bytes : Nat} {A A' : Option Addr} {c m c' : Nat} {us2 : List Value} {f2 : List Nat} {l2 : List α} {ops : Array Oper} {rest : List Oper} {op : Oper} {a : Act} {Q : Exit → Act → World → Prop}
    (hgd : op.guard = none) (s x : Operand) (hop : op.op = .call { callee := .builtin .append, args := #[s, x], argTypes := #[t, t] }) (ht : P.underlying t = some (.slice e))
    (hinfo : (P.info? e).map (fun i => (i.zero, i.size, i.bytes)) = some (some z, k, bytes)) (hzs : z.cells.size = k) (k0 : 0 < k) (hk : ∀ x, (f x).length = k)
    (hse : a.eval s = .slice A 0 c) (h : Ow w [Go.Proofs.YtmjifhjhialcbaaGreat.lst e k f ([] : List α)] [.slice A 0 c] fp) (hn : fp.Nodup) (hx : a.eval x = .slice A' m c') (hsrc : Src w A' m k us2) (ho : Ow w (l2.flatMap f) us2 f2) (hl2 : l2.length = m) (hn2 : f2.Nodup) (hd : ∀ p ∈ f2, p ∉ fp) (hl : m ≤ 2097154) (hby : bytes ≤ 1048576)
    (hK : ∀ A3 c3 w3 fp3, Ow w3 [Go.Proofs.YtmjifhjhialcbaaGreat.lst e k f l2] [.slice A3 m c3] fp3 → fp3.Nodup → (∀ p ∈ fp3, p ∈ fp ∨ p ∈ f2 ∨ p = w.heap.size) → Touch fp w w3 → wpList P ops Q rest (a.put op.dst (.slice A3 m c3)) w3) :
    wpList P ops Q (op :: rest) a w :=
 wpList_plain hgd fun _ hK' => wp_append_fresh s x hop ht hinfo hzs k0 hk hse h hn hx hsrc ho hl2 hn2 hd hl hby fun A3 c3 w3 fp3 a1 a2 a3 a4 => hK' _ _ (hK A3 c3 w3 fp3 a1 a2 a3 a4)
end
/-! ### Flat elements -/
section
variable {α : Type} {w w' : World} {B : Nat} {e : TypeId} {k : Nat} {f : α → List Dat} {g : α → List Int} {l : List α}
theorem flat_flat (hf : ∀ x, f x = (g x).flatMap fun y => [Dat.int y]) (l : List α) : l.flatMap f = (l.flatMap g).flatMap fun y => [Dat.int y] := by
 induction l with
 | nil => rfl
 | cons x l ih => rw [List.flatMap_cons, List.flatMap_cons, List.flatMap_append, ih, hf]
theorem ow_flat (hf : ∀ x, f x = (g x).flatMap fun y => [Dat.int y]) (w : World) (l : List α) : Ow w (l.flatMap f) (ivals (l.flatMap g)) [] := by
 rw [flat_flat hf]
 exact ow_ints_mk _
theorem Rd.src (hf : ∀ x, f x = (g x).flatMap fun y => [Dat.int y]) (hk : ∀ x, (f x).length = k) (k0 : 0 < k) {A : Option Addr} {n c : Nat} (h : Rd w B [Go.Proofs.YtmjifhjhialcbaaGreat.lst e k f l] [.slice A n c]) : Src w A n k (ivals (l.flatMap g)) ∧ l.length = n := by
 obtain ⟨A', n', c', e1, hl, _, _, hel⟩ := Rd.lst hk k0 h
 injection e1 with e1 e2 e3
 subst e1 e2 e3
 refine ⟨fun hn => ?_, hl⟩
 obtain ⟨b, off, hA, _, hc⟩ := hel hn
 refine ⟨b, off, hA, fun i hi => ?_⟩
 have hkg : ∀ x, (g x).length = k := fun x => by
  have h1 := hk x
  have h2 : ∀ q : List Int, (q.flatMap fun y => [Dat.int y]).length = q.length := fun q => by
   induction q with
   | nil => rfl
   | cons x q ih => rw [List.flatMap_cons, List.length_append, ih, List.length_cons, Nat.add_comm]; rfl
  rw [hf x, h2] at h1
  exact h1
 have hq : i / k < l.length := by rw [hl]; exact Nat.div_lt_of_lt_mul (by rw [Nat.mul_comm]; exact hi)
 have hr : i % k < k := Nat.mod_lt _ k0
 obtain ⟨es, he, hrd, hcell⟩ := hc (i / k) hq
 have h1 := hcell (i % k) hr
 have h2 : off + i / k * k + i % k = off + i := by
  have := Nat.div_add_mod i k
  rw [Nat.mul_comm] at this
  omega
 rw [h2] at h1
 rw [h1]
 rw [hf] at hrd
 rw [rd_ints hrd]
 have h3 : l.flatMap g = (l.take (i / k)).flatMap g ++ (g l[i / k] ++ (l.drop (i / k + 1)).flatMap g) := by
  have e1 : l = l.take (i / k) ++ (l[i / k] :: l.drop (i / k + 1)) := by rw [← List.drop_eq_getElem_cons hq, List.take_append_drop]
  have e2 := congrArg (List.flatMap g) e1
  rw [List.flatMap_append, List.flatMap_cons] at e2
  exact e2
 have h4 : ((l.take (i / k)).flatMap g).length = i / k * k := by
  have : ∀ q : List α, (q.flatMap g).length = q.length * k := fun q => by
   induction q with
   | nil => simp
   | cons x q ih => rw [List.flatMap_cons, List.length_append, ih, hkg, List.length_cons, Nat.add_mul, Nat.one_mul, Nat.add_comm]
  rw [this, List.length_take, Nat.min_eq_left (Nat.le_of_lt hq)]
 rw [ivals_get, ivals_get, h3, List.getElem?_append_right (by rw [h4]; have := Nat.div_add_mod i k; rw [Nat.mul_comm] at this; omega), h4]
 have h5 : i - i / k * k = i % k := by
  have := Nat.div_add_mod i k
  rw [Nat.mul_comm] at this
  omega
 rw [h5, List.getElem?_append_left (by rw [hkg]; exact hr)]
end
theorem Sep.addAt {w : World} {base : Nat} {is : List Item} {ds : List Dat} {vs : List Value} {f : List Nat} (h : Sep w base is) (o : Ow w ds vs f) (hn : (f ++ foots is).Nodup) (hb : ∀ p ∈ f, base ≤ p) : Sep w base (.own ds vs f :: is) := by
 refine ⟨fun n i hi => ?_, hn, fun p hp => ?_⟩
 · cases n with
   | zero => simp at hi; subst hi; exact o
   | succ n => exact h.holds n i (by simpa using hi)
 · rcases List.mem_append.1 (show p ∈ f ++ foots is from hp) with hp | hp
   · exact hb p hp
   · exact h.ge p hp
theorem Sep.blk0 {α : Type} {w : World} {base q : Nat} {is : List Item} {e : TypeId} {k : Nat} {f : α → List Dat} (h : Sep w base (.blk q #[] e :: is)) : Sep w base (.own [lst e k f []] [.slice (some ⟨q, 0, none⟩) 0 0] [q] :: is) := by
 refine ⟨fun n i hi => ?_, h.nodup, h.ge⟩
 cases n with
 | zero =>
  simp at hi
  subst hi
  have hb : w.heap[q]? = some (.cells #[] e (0, 0)) := h.at_ 0 rfl
  have h1 : w.ownsRow 0 e k (.slice (some ⟨q, 0, none⟩) 0 0) 0 [] := ⟨by simp, .inr ⟨q, 0, #[], rfl, Nat.zero_le _, hb, Nat.le_refl _, Nat.zero_le _, by simp, by simp⟩⟩
  have h2 : Ow w [Go.Proofs.YtmjifhjhialcbaaGreat.lst e k f []] [.slice (some ⟨q, 0, none⟩) 0 0] [q] := by
   have := Ow.of_lst (f := f) (l := []) h1 .nil
   simpa [Value.ownBlock] using this
  exact h2
 | succ n => exact h.holds (n + 1) i (by simpa using hi)
theorem Sep.flat {α : Type} {w : World} {base : Nat} {is : List Item} {f : α → List Dat} {g : α → List Int} (h : Sep w base is) (hf : ∀ x, f x = (g x).flatMap fun y => [Dat.int y]) (l : List α) : Sep w base (.own (l.flatMap f) (ivals (l.flatMap g)) [] :: is) :=
 h.own0 (ow_flat hf w l)
theorem Src.of_blk {w : World} {g off m k : Nat} {cs : Array Value} {t : TypeId} {us : List Value} (h : Blk w g cs t) (hc : ∀ i, i < m * k → cs[off + i]? = us[i]?) : Src w (some ⟨g, off, none⟩) m k us :=
 fun _ => ⟨g, off, rfl, fun i hi => (h.cell (off + i)).trans (hc i hi)⟩
theorem Src.zero {w : World} {A : Option Addr} {k : Nat} {us : List Value} : Src w A 0 k us := fun h => absurd h (by omega)
/-! ### copy -/
theorem Sep.made {α : Type} {w : World} {base : Nat} {is : List Item} {e : TypeId} {k : Nat} {f : α → List Dat} {x0 : α} {zc : Array Value} (h : Sep w base is) (hle : base ≤ w.heap.size) (hk : zc.size = k) (k0 : 0 < k) (n : Nat) (hm : n ≤ maxLen) (hz : ∀ w, Ow w (f x0) zc.toList []) {p : Nat} (hp : w.heap.size = p) :
    Sep (w.alloc (.cells (madeCells zc (n * k)) e)) base (.own [lst e k f (List.replicate n x0)] [.slice (some ⟨p, 0, none⟩) n n] [p] :: is) := by
 subst hp
 refine (h.keep ((Below.refl _ _).alloc (Nat.le_refl _) _)).addAt (ow_made hk k0 n hm hz) ?_ (fun q hq => ?_)
 · show ([w.heap.size] ++ foots is).Nodup
   rw [List.singleton_append, List.nodup_cons]
   exact ⟨fun hm => Nat.lt_irrefl _ (h.lt _ hm), h.nodup⟩
 · have : q = w.heap.size := by simpa using hq
   omega
theorem Rd.headL {w : World} {B : Nat} {t : HeadM} {x0 x1 x2 : Int} {v3 : Value} (h : Rd w B t.cells [.int .i64 x0, .int .i64 x1, .int .i64 x2, v3]) : x0 = t.num ∧ x1 = t.base ∧ x2 = t.tm ∧ Rd w B [mrkD t.seen] [v3] := by
 obtain ⟨_, _, _, e0, e1, e2, rfl, hr⟩ := h.headT
 injection e0 with _ e0
 injection e1 with _ e1
 injection e2 with _ e2
 exact ⟨e0, e1, e2, hr⟩
def MadeMB (w : World) (r : List MarkM × Bool) (e : Ending) (w' : World) : Prop :=
 ∃ (A : Option Addr) (n c : Nat), e = .returned (.tuple #[.slice A n c, .bool r.2]) ∧ Has w' w.heap.size [mrkD r.1] [.slice A n c] ∧ Below w.heap.size w w'
end Go.Proofs.YtmjifhjhialcbaaGreat

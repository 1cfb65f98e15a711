/- Parts of my texts: LogA MarkM MarkN HeadM BookM BookN. -/
import Derived.Test.YthjjdelpdiipdaaGreatDoorMX12
import Derived.Test.YthjjdelpdiipdaaGreatDoorMX13
import Derived.Test.YthjjdelpdiipdaaGreatDoorMX15
namespace Go.Proofs.YthjjdelpdiipdaaGreatDoor
set_option maxRecDepth 100000
set_option linter.unusedVariables false
open Go.RowKit
def ackM (e : EntM) : AckM := if entB e = true then ⟨e.cl, e.sq, e.idx, e.sq⟩ else ack0
set_option maxHeartbeats 3200000 in
theorem sAckOf_any (x0 x1 x2 x3 x4 x5 x6 x7 x8 : Int) (w : World) : Calls Tryz.prog 73 #[.agg #[.int .i64 x0, .int .i64 x1, .int .i64 x2, .int .i64 x3, .int .i64 x4, .int .i64 x5, .int .i64 x6, .int .i64 x7, .int .i64 x8]] w fun e w' => e = .returned (.agg #[.int .i64 (ackM ⟨x0, x1, x2, x3, x4, x5, x6, x7, x8⟩).cl, .int .i64 (ackM ⟨x0, x1, x2, x3, x4, x5, x6, x7, x8⟩).sq, .int .i64 (ackM ⟨x0, x1, x2, x3, x4, x5, x6, x7, x8⟩).ix, .int .i64 (ackM ⟨x0, x1, x2, x3, x4, x5, x6, x7, x8⟩).last]) ∧ Below w.heap.size w w' := by
 have S := Sep.nil w w.heap.size
 have c := Below.refl w.heap.size w
 replace S := S.boxAt c.size (w.heap.size) rfl #[.int .i64 x0, .int .i64 x1, .int .i64 x2, .int .i64 x3, .int .i64 x4, .int .i64 x5, .int .i64 x6, .int .i64 x7, .int .i64 x8] 98
 replace c := al c S
 replace S := S.boxAt c.size (w.heap.size + 1) (by simp) #[.int .i64 0, .int .i64 0, .int .i64 0, .int .i64 0] 116
 replace c := al c S
 go_enter Tryz.func73, Tryz.ntmps73
 have f0 := lk S 1 0 rfl rfl
 have f1 := lk S 1 1 rfl rfl
 have f2 := lk S 1 2 rfl rfl
 have f3 := lk S 1 3 rfl rfl
 have f4 := lk S 1 4 rfl rfl
 have f5 := lk S 1 5 rfl rfl
 have f6 := lk S 1 6 rfl rfl
 have f7 := lk S 1 7 rfl rfl
 have f8 := lk S 1 8 rfl rfl
 go_wp2_with fail
 generalize (w.alloc (.cells #[.int .i64 x0, .int .i64 x1, .int .i64 x2, .int .i64 x3, .int .i64 x4, .int .i64 x5, .int .i64 x6, .int .i64 x7, .int .i64 x8] 98)).alloc (.cells #[.int .i64 0, .int .i64 0, .int .i64 0, .int .i64 0] 116) = w1 at *
 refine (sEntryOk_any x0 x1 x2 x3 x4 x5 x6 x7 x8 _).mono ?_
 rintro e w2 ⟨rfl, b⟩
 replace c := c.trans (b.mono c.size)
 replace S := S.keep b
 clear b f0 f1 f2 f3 f4 f5 f6 f7 f8
 cases hok : entB (⟨x0, x1, x2, x3, x4, x5, x6, x7, x8⟩ : EntM)
 case false =>
  have HV := jd (show ackM ⟨x0, x1, x2, x3, x4, x5, x6, x7, x8⟩ = ack0 by unfold ackM; rw [hok]; rfl)
  clear hok
  have f9 := lk S 1 0 rfl rfl
  have f10 := lk S 1 2 rfl rfl
  have f11 := lk S 1 3 rfl rfl
  have f12 := lk S 0 0 rfl rfl
  have f13 := (S.at_ 0 rfl).free 0
  have f14 := lk S 0 1 rfl rfl
  have f15 := (S.at_ 0 rfl).free 1
  have f16 := lk S 0 2 rfl rfl
  have f17 := (S.at_ 0 rfl).free 2
  have f18 := lk S 0 3 rfl rfl
  have f19 := (S.at_ 0 rfl).free 3
  replace S := S.put 0 rfl 0 (.int .i64 0)
  replace c := st c S (by omega)
  replace S := S.put 0 rfl 1 (.int .i64 0)
  replace c := st c S (by omega)
  replace S := S.put 0 rfl 2 (.int .i64 0)
  replace c := st c S (by omega)
  replace S := S.put 0 rfl 3 (.int .i64 0)
  replace c := st c S (by omega)
  have r0 := jd ((S.at_ 0 rfl).cell 0)
  have r1 := jd ((S.at_ 0 rfl).cell 1)
  have r2 := jd ((S.at_ 0 rfl).cell 2)
  have r3 := jd ((S.at_ 0 rfl).cell 3)
  have CC := jd c
  clear S c
  go_wp2
  exact bodyPost_ret (v := .agg #[.int .i64 0, .int .i64 0, .int .i64 0, .int .i64 0]) (by simp [results, Tryz.results73, go_sem, r0.out, r1.out, r2.out, r3.out]) rfl ⟨by first | (rw [HV.out]; done) | (rw [HV.out]; rfl), CC.out⟩
 case true =>
  have HV := jd (show ackM ⟨x0, x1, x2, x3, x4, x5, x6, x7, x8⟩ = ⟨x2, x3, x0, x3⟩ by unfold ackM; rw [hok]; rfl)
  clear hok
  have f9 := lk S 1 0 rfl rfl
  have f10 := lk S 1 2 rfl rfl
  have f11 := lk S 1 3 rfl rfl
  have f12 := lk S 0 0 rfl rfl
  have f13 := (S.at_ 0 rfl).free 0
  have f14 := lk S 0 1 rfl rfl
  have f15 := (S.at_ 0 rfl).free 1
  have f16 := lk S 0 2 rfl rfl
  have f17 := (S.at_ 0 rfl).free 2
  have f18 := lk S 0 3 rfl rfl
  have f19 := (S.at_ 0 rfl).free 3
  replace S := S.put 0 rfl 0 (.int .i64 x2)
  replace c := st c S (by omega)
  replace S := S.put 0 rfl 1 (.int .i64 x3)
  replace c := st c S (by omega)
  replace S := S.put 0 rfl 2 (.int .i64 x0)
  replace c := st c S (by omega)
  replace S := S.put 0 rfl 3 (.int .i64 x3)
  replace c := st c S (by omega)
  have r0 := jd ((S.at_ 0 rfl).cell 0)
  have r1 := jd ((S.at_ 0 rfl).cell 1)
  have r2 := jd ((S.at_ 0 rfl).cell 2)
  have r3 := jd ((S.at_ 0 rfl).cell 3)
  have CC := jd c
  clear S c
  go_wp2
  exact bodyPost_ret (v := .agg #[.int .i64 x2, .int .i64 x3, .int .i64 x0, .int .i64 x3]) (by simp [results, Tryz.results73, go_sem, r0.out, r1.out, r2.out, r3.out]) rfl ⟨by first | (rw [HV.out]; done) | (rw [HV.out]; rfl), CC.out⟩
set_option maxHeartbeats 3200000 in
theorem iAckOf_any (x0 x1 x2 x3 x4 x5 x6 x7 x8 : Int) (w : World) : Calls Tryz.prog 129 #[.agg #[.int .i64 x0, .int .i64 x1, .int .i64 x2, .int .i64 x3, .int .i64 x4, .int .i64 x5, .int .i64 x6, .int .i64 x7, .int .i64 x8]] w fun e w' => e = .returned (.agg #[.int .i64 (ackM ⟨x0, x1, x2, x3, x4, x5, x6, x7, x8⟩).cl, .int .i64 (ackM ⟨x0, x1, x2, x3, x4, x5, x6, x7, x8⟩).sq, .int .i64 (ackM ⟨x0, x1, x2, x3, x4, x5, x6, x7, x8⟩).ix, .int .i64 (ackM ⟨x0, x1, x2, x3, x4, x5, x6, x7, x8⟩).last]) ∧ Below w.heap.size w w' := by
 have S := Sep.nil w w.heap.size
 have c := Below.refl w.heap.size w
 replace S := S.boxAt c.size (w.heap.size) rfl #[.int .i64 x0, .int .i64 x1, .int .i64 x2, .int .i64 x3, .int .i64 x4, .int .i64 x5, .int .i64 x6, .int .i64 x7, .int .i64 x8] 98
 replace c := al c S
 replace S := S.boxAt c.size (w.heap.size + 1) (by simp) #[.int .i64 0, .int .i64 0, .int .i64 0, .int .i64 0] 116
 replace c := al c S
 go_enter Tryz.func129, Tryz.ntmps129
 have f0 := lk S 1 0 rfl rfl
 have f1 := lk S 1 1 rfl rfl
 have f2 := lk S 1 2 rfl rfl
 have f3 := lk S 1 3 rfl rfl
 have f4 := lk S 1 4 rfl rfl
 have f5 := lk S 1 5 rfl rfl
 have f6 := lk S 1 6 rfl rfl
 have f7 := lk S 1 7 rfl rfl
 have f8 := lk S 1 8 rfl rfl
 go_wp2_with fail
 generalize (w.alloc (.cells #[.int .i64 x0, .int .i64 x1, .int .i64 x2, .int .i64 x3, .int .i64 x4, .int .i64 x5, .int .i64 x6, .int .i64 x7, .int .i64 x8] 98)).alloc (.cells #[.int .i64 0, .int .i64 0, .int .i64 0, .int .i64 0] 116) = w1 at *
 refine (iEntryOk_any x0 x1 x2 x3 x4 x5 x6 x7 x8 _).mono ?_
 rintro e w2 ⟨rfl, b⟩
 replace c := c.trans (b.mono c.size)
 replace S := S.keep b
 clear b f0 f1 f2 f3 f4 f5 f6 f7 f8
 cases hok : entB (⟨x0, x1, x2, x3, x4, x5, x6, x7, x8⟩ : EntM)
 case false =>
  have HV := jd (show ackM ⟨x0, x1, x2, x3, x4, x5, x6, x7, x8⟩ = ack0 by unfold ackM; rw [hok]; rfl)
  clear hok
  have f9 := lk S 1 0 rfl rfl
  have f10 := lk S 1 2 rfl rfl
  have f11 := lk S 1 3 rfl rfl
  have f12 := lk S 0 0 rfl rfl
  have f13 := (S.at_ 0 rfl).free 0
  have f14 := lk S 0 1 rfl rfl
  have f15 := (S.at_ 0 rfl).free 1
  have f16 := lk S 0 2 rfl rfl
  have f17 := (S.at_ 0 rfl).free 2
  have f18 := lk S 0 3 rfl rfl
  have f19 := (S.at_ 0 rfl).free 3
  replace S := S.put 0 rfl 0 (.int .i64 0)
  replace c := st c S (by omega)
  replace S := S.put 0 rfl 1 (.int .i64 0)
  replace c := st c S (by omega)
  replace S := S.put 0 rfl 2 (.int .i64 0)
  replace c := st c S (by omega)
  replace S := S.put 0 rfl 3 (.int .i64 0)
  replace c := st c S (by omega)
  have r0 := jd ((S.at_ 0 rfl).cell 0)
  have r1 := jd ((S.at_ 0 rfl).cell 1)
  have r2 := jd ((S.at_ 0 rfl).cell 2)
  have r3 := jd ((S.at_ 0 rfl).cell 3)
  have CC := jd c
  clear S c
  go_wp2
  exact bodyPost_ret (v := .agg #[.int .i64 0, .int .i64 0, .int .i64 0, .int .i64 0]) (by simp [results, Tryz.results129, go_sem, r0.out, r1.out, r2.out, r3.out]) rfl ⟨by first | (rw [HV.out]; done) | (rw [HV.out]; rfl), CC.out⟩
 case true =>
  have HV := jd (show ackM ⟨x0, x1, x2, x3, x4, x5, x6, x7, x8⟩ = ⟨x2, x3, x0, x3⟩ by unfold ackM; rw [hok]; rfl)
  clear hok
  have f9 := lk S 1 0 rfl rfl
  have f10 := lk S 1 2 rfl rfl
  have f11 := lk S 1 3 rfl rfl
  have f12 := lk S 0 0 rfl rfl
  have f13 := (S.at_ 0 rfl).free 0
  have f14 := lk S 0 1 rfl rfl
  have f15 := (S.at_ 0 rfl).free 1
  have f16 := lk S 0 2 rfl rfl
  have f17 := (S.at_ 0 rfl).free 2
  have f18 := lk S 0 3 rfl rfl
  have f19 := (S.at_ 0 rfl).free 3
  replace S := S.put 0 rfl 0 (.int .i64 x2)
  replace c := st c S (by omega)
  replace S := S.put 0 rfl 1 (.int .i64 x3)
  replace c := st c S (by omega)
  replace S := S.put 0 rfl 2 (.int .i64 x0)
  replace c := st c S (by omega)
  replace S := S.put 0 rfl 3 (.int .i64 x3)
  replace c := st c S (by omega)
  have r0 := jd ((S.at_ 0 rfl).cell 0)
  have r1 := jd ((S.at_ 0 rfl).cell 1)
  have r2 := jd ((S.at_ 0 rfl).cell 2)
  have r3 := jd ((S.at_ 0 rfl).cell 3)
  have CC := jd c
  clear S c
  go_wp2
  exact bodyPost_ret (v := .agg #[.int .i64 x2, .int .i64 x3, .int .i64 x0, .int .i64 x3]) (by simp [results, Tryz.results129, go_sem, r0.out, r1.out, r2.out, r3.out]) rfl ⟨by first | (rw [HV.out]; done) | (rw [HV.out]; rfl), CC.out⟩
def mark0 : MarkM := ⟨0, 0, 0⟩
def markB (x : MarkM) : Bool := askB x.mc && (inB x.ms 1 2000 && inB x.mi 1 2000)
theorem mgetD {l : List MarkM} {j : Nat} (hj : j < l.length) : l.getD j mark0 = l[j] := by simp [List.getD, List.getElem?_eq_getElem hj]
theorem markB_iff (x : MarkM) : markB x = true ↔ (2 ≤ x.mc ∧ x.mc ≤ 5) ∧ (1 ≤ x.ms ∧ x.ms ≤ 2000) ∧ (1 ≤ x.mi ∧ x.mi ≤ 2000) := by
 unfold markB askB
 simp only [Bool.and_eq_true, inB_iff]
def freeTo (l : List MarkM) (j k : Nat) : Bool := (List.range k).all fun q => decide ((l.getD q mark0).mi ≠ (l.getD j mark0).mi)
def riseAt (l : List MarkM) (j : Nat) : Bool := decide (j = 0) || decide ((l.getD (j - 1) mark0).mc < (l.getD j mark0).mc)
def seenAt (l : List MarkM) (j : Nat) : Bool := (markB (l.getD j mark0) && riseAt l j) && freeTo l j j
def seenB (l : List MarkM) : Bool := decide (l.length ≤ 4) && (List.range l.length).all (seenAt l)
theorem seenB_iff (l : List MarkM) : seenB l = true ↔ l.length ≤ 4 ∧ ∀ j, j < l.length → seenAt l j = true := by
 unfold seenB
 simp only [Bool.and_eq_true, decide_eq_true_eq, List.all_eq_true, List.mem_range]
theorem seenB_long {l : List MarkM} (h : 4 < l.length) : seenB l = false := by
 unfold seenB
 rw [decide_eq_false (by omega), Bool.false_and]
theorem seenB_step {l : List MarkM} {j : Nat} (hj : j < l.length) (h : seenAt l j = false) : seenB l = false := by
 rw [Bool.eq_false_iff]
 intro h2
 have := ((seenB_iff l).1 h2).2 j hj
 rw [h] at this
 cases this
theorem freeTo_iff (l : List MarkM) (j k : Nat) : freeTo l j k = true ↔ ∀ q, q < k → (l.getD q mark0).mi ≠ (l.getD j mark0).mi := by
 unfold freeTo
 simp only [List.all_eq_true, List.mem_range, decide_eq_true_eq]
theorem freeTo_no {l : List MarkM} {j k q : Nat} (hq : q < k) (h : (l.getD q mark0).mi = (l.getD j mark0).mi) : freeTo l j k = false := by
 rw [Bool.eq_false_iff]
 intro h2
 exact (freeTo_iff l j k).1 h2 q hq h
theorem seen_mark {l : List MarkM} (h : seenB l = true) {j : Nat} (hj : j < l.length) : markB l[j] = true := by
 have h1 := ((seenB_iff l).1 h).2 j hj
 unfold seenAt at h1
 rw [mgetD hj, Bool.and_eq_true, Bool.and_eq_true] at h1
 exact h1.1.1
theorem seen_len {l : List MarkM} (h : seenB l = true) : l.length ≤ 4 := ((seenB_iff l).1 h).1
def findM (l : List MarkM) (c : Int) : MarkM := (l.find? fun x => x.mc == c).getD mark0
def markOf (l : List MarkM) (c : Int) : MarkM := if seenB l = true then findM l c else mark0
def noneTo (l : List MarkM) (c : Int) (j : Nat) : Prop := ∀ q, q < j → (l.getD q mark0).mc ≠ c
theorem findM_at {l : List MarkM} {c : Int} : ∀ {j : Nat} (hj : j < l.length), noneTo l c j → l[j].mc = c → findM l c = l[j] := by
 induction l with
 | nil => intro j hj; exact absurd hj (by simp)
 | cons x t ih =>
  intro j hj hn he
  unfold findM
  rw [List.find?_cons]
  cases j with
  | zero =>
   have e : (x.mc == c) = true := by simpa using he
   rw [e]
   rfl
  | succ k =>
   have h0 := hn 0 (by omega)
   have e : (x.mc == c) = false := by simpa using h0
   rw [e]
   have hk : k < t.length := by simpa using hj
   have := ih hk (fun q hq => by have := hn (q + 1) (by omega); simpa using this) (by simpa using he)
   unfold findM at this
   rw [this]
   simp
theorem findM_none {l : List MarkM} {c : Int} (h : noneTo l c l.length) : findM l c = mark0 := by
 unfold findM
 rw [List.find?_eq_none.2 fun x hx => ?_]
 · rfl
 · obtain ⟨j, hj, rfl⟩ := List.getElem_of_mem hx
   have := h j hj
   rw [mgetD hj] at this
   simpa using this
def freshB (l : List MarkM) (c s : Int) : Bool := seenB l && (askB c && (inB s 1 2000 && decide ((markOf l c).ms < s)))
def maxTo (l : List MarkM) (j : Nat) : Int := (l.take j).foldl (fun a x => max a x.mi) 0
def lastS (l : List MarkM) : Int := if seenB l = true then maxTo l l.length else 0
theorem maxTo_step {l : List MarkM} {j : Nat} (hj : j < l.length) : maxTo l (j + 1) = max (maxTo l j) l[j].mi := by
 unfold maxTo
 rw [List.take_succ_eq_append_getElem hj, List.foldl_append]
 rfl
theorem maxTo_zero (l : List MarkM) : maxTo l 0 = 0 := by
 unfold maxTo
 rw [List.take_zero]
 rfl
def sameM (x y : MarkM) : Bool := mrkNs x == mrkNs y
theorem sameM_iff (x y : MarkM) : sameM x y = true ↔ x = y := by
 unfold sameM
 rw [beq_iff_eq]
 cases x
 cases y
 simp [mrkNs]
def sameMs (l r : List MarkM) : Bool := decide (l.length = r.length) && (List.range l.length).all fun j => sameM (l.getD j mark0) (r.getD j mark0)
theorem sameMs_iff (l r : List MarkM) : sameMs l r = true ↔ l = r := by
 constructor
 · intro h
   unfold sameMs at h
   simp only [Bool.and_eq_true, decide_eq_true_eq, List.all_eq_true, List.mem_range] at h
   refine List.ext_getElem h.1 fun j h1 h2 => ?_
   have := (sameM_iff _ _).1 (h.2 j h1)
   rwa [mgetD h1, mgetD h2] at this
 · rintro rfl
   unfold sameMs
   simp [(sameM_iff _ _).2 rfl]
theorem sameMs_len {l r : List MarkM} (h : l.length ≠ r.length) : sameMs l r = false := by
 unfold sameMs
 rw [decide_eq_false h, Bool.false_and]
theorem sameMs_step {l r : List MarkM} {j : Nat} (h : sameM (l.getD j mark0) (r.getD j mark0) = false) : sameMs l r = false := by
 rw [Bool.eq_false_iff]
 intro h2
 have e := (sameMs_iff l r).1 h2
 subst e
 rw [(sameM_iff _ _).2 rfl] at h
 cases h
def insM (l : List MarkM) (x : MarkM) : List MarkM := (l.filter fun y => decide (y.mc < x.mc)) ++ x :: (l.filter fun y => decide (x.mc < y.mc))
def mayB (l : List MarkM) (e : EntM) : Bool := entB e && (freshB l e.cl e.sq && decide (lastS l < e.idx))
def markedM (l : List MarkM) (e : EntM) : List MarkM × Bool := if seenB l = true then (if mayB l e = true then (insM l ⟨e.cl, e.sq, e.idx⟩, true) else (l, false)) else ([], false)
def overM (l : List MarkM) (es : List EntM) : List MarkM := es.foldl (fun a e => insM a ⟨e.cl, e.sq, e.idx⟩) l
def overAt (l : List MarkM) (es : List EntM) (j : Nat) : Bool := mayB (overM l (es.take j)) (es.getD j ent0)
def overB (l : List MarkM) (es : List EntM) : Bool := (List.range es.length).all (overAt l es)
def seenOverM (l : List MarkM) (es : List EntM) : List MarkM × Bool := if seenB l = true then (if es.length ≤ 2000 then (if overB l es = true then (overM l es, true) else (l, false)) else (l, false)) else ([], false)
theorem overM_step {l : List MarkM} {es : List EntM} {j : Nat} (hj : j < es.length) : overM l (es.take (j + 1)) = insM (overM l (es.take j)) ⟨es[j].cl, es[j].sq, es[j].idx⟩ := by
 unfold overM
 rw [List.take_succ_eq_append_getElem hj, List.foldl_append]
 rfl
theorem seenAt_all {l : List MarkM} (h : seenB l = true) {j : Nat} (hj : j < l.length) : markB l[j] = true ∧ (∀ k, k + 1 = j → (l.getD k mark0).mc < l[j].mc) ∧ ∀ q, q < j → (l.getD q mark0).mi ≠ l[j].mi := by
 have h1 := ((seenB_iff l).1 h).2 j hj
 unfold seenAt riseAt at h1
 rw [mgetD hj, Bool.and_eq_true, Bool.and_eq_true, freeTo_iff, mgetD hj] at h1
 refine ⟨h1.1.1, fun k hk => ?_, h1.2⟩
 have h2 := h1.1.2
 subst hk
 rw [decide_eq_false (show ¬ k + 1 = 0 by omega), Bool.false_or, decide_eq_true_eq, Nat.add_sub_cancel] at h2
 exact h2
theorem seen_rise {l : List MarkM} (h : seenB l = true) : ∀ j (hj : j < l.length) q (hq : q < j), (l[q]'(by omega)).mc < l[j].mc := by
 intro j
 induction j with
 | zero => intro _ q hq; exact absurd hq (by omega)
 | succ k ih =>
  intro hj q hq
  have h1 := (seenAt_all h hj).2.1 k rfl
  rw [mgetD (show k < l.length by omega)] at h1
  by_cases e : q = k
  · subst e; exact h1
  · have h2 := ih (by omega) q (by omega)
    omega
theorem seen_pairs {l : List MarkM} (h : seenB l = true) : (∀ x ∈ l, markB x = true) ∧ l.Pairwise (fun a b => a.mc < b.mc) ∧ l.Pairwise (fun a b => a.mi ≠ b.mi) := by
 refine ⟨fun x hx => ?_, ?_, ?_⟩
 · obtain ⟨j, hj, rfl⟩ := List.getElem_of_mem hx
   exact seen_mark h hj
 · rw [List.pairwise_iff_getElem]
   intro i j hi hj hij
   exact seen_rise h j hj i hij
 · rw [List.pairwise_iff_getElem]
   intro i j hi hj hij
   have := (seenAt_all h hj).2.2 i hij
   rwa [mgetD hi] at this
theorem seen_of {l : List MarkM} (h1 : ∀ x ∈ l, markB x = true) (h2 : l.Pairwise (fun a b => a.mc < b.mc)) (h3 : l.Pairwise (fun a b => a.mi ≠ b.mi)) : seenB l = true := by
 rw [List.pairwise_iff_getElem] at h2 h3
 have hlow : ∀ j (hj : j < l.length), (j : Int) + 2 ≤ l[j].mc := by
  intro j
  induction j with
  | zero =>
   intro hj
   have := ((markB_iff _).1 (h1 _ (List.getElem_mem hj))).1
   simp
   omega
  | succ k ih =>
   intro hj
   have h4 := ih (by omega)
   have h5 := h2 k (k + 1) (by omega) hj (by omega)
   omega
 rw [seenB_iff]
 constructor
 · rcases Nat.lt_or_ge 4 l.length with h4 | h4
   · have h5 := hlow 4 h4
     have h6 := ((markB_iff _).1 (h1 _ (List.getElem_mem h4))).1
     omega
   · exact h4
 · intro j hj
   unfold seenAt riseAt
   rw [mgetD hj, h1 _ (List.getElem_mem hj), Bool.true_and, Bool.and_eq_true, freeTo_iff]
   refine ⟨?_, fun q hq => ?_⟩
   · rcases Nat.eq_zero_or_pos j with h0 | h0
     · rw [decide_eq_true h0, Bool.true_or]
     · rw [mgetD (show j - 1 < l.length by omega), decide_eq_true (h2 (j - 1) j (by omega) hj (by omega)), Bool.or_true]
   · rw [mgetD (show q < l.length by omega), mgetD hj]
     exact h3 q j (by omega) hj hq
theorem maxTo_le (l : List MarkM) : ∀ j, j ≤ l.length → ∀ q (_hq : q < j) (hl : q < l.length), l[q].mi ≤ maxTo l j := by
 intro j
 induction j with
 | zero => intro _ q hq; exact absurd hq (by omega)
 | succ k ih =>
  intro hk q hq hl
  rw [maxTo_step (show k < l.length by omega)]
  by_cases e : q = k
  · subst e; omega
  · have := ih (by omega) q (by omega) hl
    omega
theorem lastS_ge {l : List MarkM} (h : seenB l = true) {x : MarkM} (hx : x ∈ l) : x.mi ≤ lastS l := by
 unfold lastS
 rw [if_pos h]
 obtain ⟨j, hj, rfl⟩ := List.getElem_of_mem hx
 exact maxTo_le l l.length (Nat.le_refl _) j hj hj
theorem insM_ok {l : List MarkM} {x : MarkM} (h : seenB l = true) (hx : markB x = true) (hm : lastS l < x.mi) : seenB (insM l x) = true := by
 obtain ⟨h1, h2, h3⟩ := seen_pairs h
 have hne : ∀ y ∈ l, ∀ z ∈ l, y ≠ z → y.mi ≠ z.mi := by
  intro y hy z hz hyz
  obtain ⟨i, hi, rfl⟩ := List.getElem_of_mem hy
  obtain ⟨j, hj, rfl⟩ := List.getElem_of_mem hz
  rw [List.pairwise_iff_getElem] at h3
  rcases Nat.lt_trichotomy i j with h4 | h4 | h4
  · exact h3 i j hi hj h4
  · subst h4; exact absurd rfl hyz
  · exact (h3 j i hj hi h4).symm
 unfold insM
 refine seen_of (fun y hy => ?_) ?_ ?_
 · rcases List.mem_append.1 hy with h4 | h4
   · exact h1 y (List.mem_filter.1 h4).1
   · rcases List.mem_cons.1 h4 with rfl | h4
     · exact hx
     · exact h1 y (List.mem_filter.1 h4).1
 · rw [List.pairwise_append, List.pairwise_cons]
   refine ⟨h2.filter _, ⟨fun z hz => by simpa using (List.mem_filter.1 hz).2, h2.filter _⟩, fun y hy z hz => ?_⟩
   have hy2 : y.mc < x.mc := by simpa using (List.mem_filter.1 hy).2
   rcases List.mem_cons.1 hz with rfl | hz
   · exact hy2
   · have hz2 : x.mc < z.mc := by simpa using (List.mem_filter.1 hz).2
     omega
 · rw [List.pairwise_append, List.pairwise_cons]
   refine ⟨h3.filter _, ⟨fun z hz => ?_, h3.filter _⟩, fun y hy z hz => ?_⟩
   · have := lastS_ge h (List.mem_filter.1 hz).1
     omega
   · have hy2 : y.mc < x.mc := by simpa using (List.mem_filter.1 hy).2
     have hy1 := (List.mem_filter.1 hy).1
     rcases List.mem_cons.1 hz with rfl | hz
     · have := lastS_ge h hy1
       omega
     · have hz2 : x.mc < z.mc := by simpa using (List.mem_filter.1 hz).2
       refine hne y hy1 z (List.mem_filter.1 hz).1 (fun e => ?_)
       rw [e] at hy2
       omega
theorem mayB_iff (l : List MarkM) (e : EntM) : mayB l e = true ↔ entB e = true ∧ freshB l e.cl e.sq = true ∧ lastS l < e.idx := by
 unfold mayB
 simp only [Bool.and_eq_true, decide_eq_true_eq]
theorem marked_ok {l : List MarkM} {e : EntM} (h : seenB l = true) (hm : mayB l e = true) : seenB (insM l ⟨e.cl, e.sq, e.idx⟩) = true := by
 obtain ⟨h1, _, h3⟩ := (mayB_iff l e).1 hm
 have h4 := (entB_iff e).1 h1
 exact insM_ok h ((markB_iff _).2 ⟨h4.2.2.1, h4.2.2.2.1, h4.1⟩) h3
theorem overB_iff (l : List MarkM) (es : List EntM) : overB l es = true ↔ ∀ j, j < es.length → overAt l es j = true := by
 unfold overB
 simp only [List.all_eq_true, List.mem_range]
theorem overB_step {l : List MarkM} {es : List EntM} {j : Nat} (hj : j < es.length) (h : overAt l es j = false) : overB l es = false := by
 rw [Bool.eq_false_iff]
 intro h2
 have := (overB_iff l es).1 h2 j hj
 rw [h] at this
 cases this
theorem over_ok {l : List MarkM} {es : List EntM} (h : seenB l = true) : ∀ j, j ≤ es.length → (∀ q, q < j → overAt l es q = true) → seenB (overM l (es.take j)) = true := by
 intro j
 induction j with
 | zero => intro _ _; rw [List.take_zero]; exact h
 | succ k ih =>
  intro hk hall
  have h1 := ih (by omega) fun q hq => hall q (by omega)
  have h2 := hall k (by omega)
  unfold overAt at h2
  rw [egetD (show k < es.length by omega)] at h2
  rw [overM_step (show k < es.length by omega)]
  exact marked_ok h1 h2
theorem marked_more {l : List MarkM} {es : List EntM} {j : Nat} (hok : seenB (overM l (es.take j)) = true) (hj : j < es.length) : markedM (overM l (es.take j)) es[j] = if overAt l es j = true then (overM l (es.take (j + 1)), true) else (overM l (es.take j), false) := by
 unfold markedM overAt
 rw [if_pos hok, egetD hj, overM_step hj]
def headZ : HeadM := ⟨0, 0, 0, []⟩
def headOkB (t : HeadM) : Bool := inB t.base 0 2000 && (inB t.num 0 t.base && (inB t.tm 0 1000000 && ((decide (0 < t.base) || decide (t.tm = 0)) && (seenB t.seen && decide (lastS t.seen = t.base)))))
theorem headOkB_iff (t : HeadM) : headOkB t = true ↔ (0 ≤ t.base ∧ t.base ≤ 2000) ∧ (0 ≤ t.num ∧ t.num ≤ t.base) ∧ (0 ≤ t.tm ∧ t.tm ≤ 1000000) ∧ (0 < t.base ∨ t.tm = 0) ∧ seenB t.seen = true ∧ lastS t.seen = t.base := by
 unfold headOkB
 simp only [Bool.and_eq_true, Bool.or_eq_true, inB_iff, decide_eq_true_eq]
def keptB (t : TwoM) : Bool := twoOk t && decide (t.a.kept.length = 22)
def headB (b : BookM) : Bool := decide (b.ents.length = 0) || (decide ((b.ents.getD 0 ent0).idx = b.base + 1) && decide (b.tm ≤ (b.ents.getD 0 ent0).tm))
def bookB (b : BookM) : Bool := inB b.base 0 2000 && (inB b.tm 0 1000000 && ((decide (b.base ≠ 0) || decide (b.tm = 0)) && (decide (b.ents.length ≤ 20) && (entsB b.ents && headB b))))
def lastB (b : BookM) : Int := b.base + (b.ents.length : Int)
def lastM (b : BookM) : Int := if bookB b = true then lastB b else 0
def timeAt (b : BookM) (i : Int) : Int := if i = b.base then b.tm else (b.ents.getD (i - b.base - 1).toNat ent0).tm
theorem bookB_iff (b : BookM) : bookB b = true ↔ (0 ≤ b.base ∧ b.base ≤ 2000) ∧ (0 ≤ b.tm ∧ b.tm ≤ 1000000) ∧ (b.base ≠ 0 ∨ b.tm = 0) ∧ b.ents.length ≤ 20 ∧ entsB b.ents = true ∧ headB b = true := by
 unfold bookB
 simp only [Bool.and_eq_true, Bool.or_eq_true, inB_iff, decide_eq_true_eq]
theorem bookB_len {b : BookM} (h : bookB b = true) : b.ents.length ≤ 20 := ((bookB_iff b).1 h).2.2.2.1
theorem book_sz (b : BookM) : b.sz = b.ents.length := rfl
theorem entsB_all {l : List EntM} (h : entsB l = true) {j : Nat} (hj : j < l.length) : entB l[j] = true ∧ nextAt l j = true := by
 have h1 := ((entsB_iff l).1 h).2 j hj
 rw [entsAt_eq hj, Bool.and_eq_true] at h1
 exact h1
theorem book_idx {b : BookM} (h : bookB b = true) : ∀ j (hj : j < b.ents.length), b.ents[j].idx = b.base + 1 + (j : Int) := by
 obtain ⟨_, _, _, _, he, hh⟩ := (bookB_iff b).1 h
 intro j
 induction j with
 | zero =>
  intro hj
  unfold headB at hh
  rw [decide_eq_false (show ¬ b.ents.length = 0 by omega), Bool.false_or, Bool.and_eq_true, decide_eq_true_eq, egetD hj] at hh
  rw [hh.1]
  simp
 | succ k ih =>
  intro hj
  have h1 := (entsB_all he hj).2
  rw [nextAt_succ hj, Bool.and_eq_true, decide_eq_true_eq] at h1
  rw [h1.1, ih (by omega)]
  omega
end Go.Proofs.YthjjdelpdiipdaaGreatDoor

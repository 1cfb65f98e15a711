/- Parts of my texts: EntD1 EntD2 EntD3 BookV. -/
import Derived.Test.YtmjifhjhialcbaaU8
namespace Go.Proofs.Ytmjifhjhialcbaa
set_option maxRecDepth 100000
set_option linter.unusedVariables false
open Go.RowKit
set_option maxHeartbeats 3200000 in
theorem w9op_any (B p : Nat) (w : World) (h : LCur w B p) :
    Calls Try.prog 29 #[.pointer (some ⟨p, 0, none⟩)] w (fun e w' => ∃ (x0 x1 x2 x3 x4 : Int), opB ⟨x0, x1, x2, x3, x4⟩ = true ∧ e = .returned (.agg #[.int .i64 x0, .int .i64 x1, .int .i64 x2, .int .i64 x3, .int .i64 x4]) ∧ LCur w' B p ∧ w.grownBy w' (some p)) := by
 have X := DrL.start h
 clear h
 replace X := X.boxAt (w.heap.size) rfl #[.int .i64 0, .int .i64 0, .int .i64 0, .int .i64 0, .int .i64 0] 33
 go_enter Try.func29, Try.ntmps29
 go_wp2_with fail
 generalize w.alloc (.cells #[.int .i64 0, .int .i64 0, .int .i64 0, .int .i64 0, .int .i64 0] 33) = w1 at *
 refine (lbelow_any _ _ _ X.cur 5 (by decide)).mono ?_
 rintro e w2 ⟨q, hq, rfl, cu, gr⟩
 replace X := X.draw cu gr
 clear cu gr
 have hq5 : q = 0 ∨ q = 1 ∨ q = 2 ∨ q = 3 ∨ q = 4 := by omega
 clear hq
 rcases hq5 with rfl | rfl | rfl | rfl | rfl
 · go_wp2_with fail
   refine (lbelow_any _ _ _ X.cur 10 (by decide)).mono ?_
   rintro e w3 ⟨v1, hv1, rfl, cu, gr⟩
   replace X := X.draw cu gr
   clear cu gr
   have HV := jd (show opB ⟨2, v1, 0, 0, 0⟩ = true by simp [opB, inB]; omega)
   have f0 := lk X.sep 0 0 rfl rfl
   have f1 := (X.sep.at_ 0 rfl).free 0
   have f2 := lk X.sep 0 1 rfl rfl
   have f3 := (X.sep.at_ 0 rfl).free 1
   have f4 := lk X.sep 0 2 rfl rfl
   have f5 := (X.sep.at_ 0 rfl).free 2
   have f6 := lk X.sep 0 3 rfl rfl
   have f7 := (X.sep.at_ 0 rfl).free 3
   have f8 := lk X.sep 0 4 rfl rfl
   have f9 := (X.sep.at_ 0 rfl).free 4
   replace X := X.put 0 rfl 0 (.int .i64 2)
   replace X := X.put 0 rfl 1 (.int .i64 v1)
   replace X := X.put 0 rfl 2 (.int .i64 0)
   replace X := X.put 0 rfl 3 (.int .i64 0)
   replace X := X.put 0 rfl 4 (.int .i64 0)
   replace X : DrL w _ _ _ [.blk (w.heap.size) #[.int .i64 2, .int .i64 v1, .int .i64 0, .int .i64 0, .int .i64 0] 33] := X
   have r0 := jd ((X.sep.at_ 0 rfl).cell 0)
   have r1 := jd ((X.sep.at_ 0 rfl).cell 1)
   have r2 := jd ((X.sep.at_ 0 rfl).cell 2)
   have r3 := jd ((X.sep.at_ 0 rfl).cell 3)
   have r4 := jd ((X.sep.at_ 0 rfl).cell 4)
   have CU := jd X.cur
   have GR := jd X.grown
   clear X
   go_wp2
   exact bodyPost_ret (v := .agg #[.int .i64 2, .int .i64 v1, .int .i64 0, .int .i64 0, .int .i64 0]) (by simp [results, Try.results29, go_sem, r0.out, r1.out, r2.out, r3.out, r4.out]) rfl ⟨2, v1, 0, 0, 0, HV.out, rfl, CU.out, GR.out⟩
 · go_wp2_with fail
   refine (lbelow_any _ _ _ X.cur 20 (by decide)).mono ?_
   rintro e w3 ⟨v1, hv1, rfl, cu, gr⟩
   replace X := X.draw cu gr
   clear cu gr
   have hwv1 : IntKind.i64.wrap (1 + v1) = 1 + v1 := by rw [IntKind.wrap_i64]; omega
   go_wp2_with fail
   refine (lbelow_any _ _ _ X.cur 90 (by decide)).mono ?_
   rintro e w4 ⟨v2, hv2, rfl, cu, gr⟩
   replace X := X.draw cu gr
   clear cu gr
   go_wp2_with fail
   refine (lbelow_any _ _ _ X.cur 10 (by decide)).mono ?_
   rintro e w5 ⟨v3, hv3, rfl, cu, gr⟩
   replace X := X.draw cu gr
   clear cu gr
   go_wp2_with fail
   refine (lbelow_any _ _ _ X.cur 1000 (by decide)).mono ?_
   rintro e w6 ⟨v4, hv4, rfl, cu, gr⟩
   replace X := X.draw cu gr
   clear cu gr
   have HV := jd (show opB ⟨3, 1 + v1, v2, v3, v4⟩ = true by simp [opB, inB]; omega)
   have f0 := lk X.sep 0 0 rfl rfl
   have f1 := (X.sep.at_ 0 rfl).free 0
   have f2 := lk X.sep 0 1 rfl rfl
   have f3 := (X.sep.at_ 0 rfl).free 1
   have f4 := lk X.sep 0 2 rfl rfl
   have f5 := (X.sep.at_ 0 rfl).free 2
   have f6 := lk X.sep 0 3 rfl rfl
   have f7 := (X.sep.at_ 0 rfl).free 3
   have f8 := lk X.sep 0 4 rfl rfl
   have f9 := (X.sep.at_ 0 rfl).free 4
   replace X := X.put 0 rfl 0 (.int .i64 3)
   replace X := X.put 0 rfl 1 (.int .i64 (1 + v1))
   replace X := X.put 0 rfl 2 (.int .i64 v2)
   replace X := X.put 0 rfl 3 (.int .i64 v3)
   replace X := X.put 0 rfl 4 (.int .i64 v4)
   replace X : DrL w _ _ _ [.blk (w.heap.size) #[.int .i64 3, .int .i64 (1 + v1), .int .i64 v2, .int .i64 v3, .int .i64 v4] 33] := X
   have r0 := jd ((X.sep.at_ 0 rfl).cell 0)
   have r1 := jd ((X.sep.at_ 0 rfl).cell 1)
   have r2 := jd ((X.sep.at_ 0 rfl).cell 2)
   have r3 := jd ((X.sep.at_ 0 rfl).cell 3)
   have r4 := jd ((X.sep.at_ 0 rfl).cell 4)
   have CU := jd X.cur
   have GR := jd X.grown
   clear X
   go_wp2
   exact bodyPost_ret (v := .agg #[.int .i64 3, .int .i64 (1 + v1), .int .i64 v2, .int .i64 v3, .int .i64 v4]) (by simp [results, Try.results29, go_sem, r0.out, r1.out, r2.out, r3.out, r4.out]) rfl ⟨3, 1 + v1, v2, v3, v4, HV.out, rfl, CU.out, GR.out⟩
 · go_wp2_with fail
   refine (lbelow_any _ _ _ X.cur 20 (by decide)).mono ?_
   rintro e w3 ⟨v1, hv1, rfl, cu, gr⟩
   replace X := X.draw cu gr
   clear cu gr
   have hwv1 : IntKind.i64.wrap (1 + v1) = 1 + v1 := by rw [IntKind.wrap_i64]; omega
   go_wp2_with fail
   refine (lbelow_any _ _ _ X.cur 5 (by decide)).mono ?_
   rintro e w4 ⟨v2, hv2, rfl, cu, gr⟩
   replace X := X.draw cu gr
   clear cu gr
   have HV := jd (show opB ⟨4, 1 + v1, v2, 0, 0⟩ = true by simp [opB, inB]; omega)
   have f0 := lk X.sep 0 0 rfl rfl
   have f1 := (X.sep.at_ 0 rfl).free 0
   have f2 := lk X.sep 0 1 rfl rfl
   have f3 := (X.sep.at_ 0 rfl).free 1
   have f4 := lk X.sep 0 2 rfl rfl
   have f5 := (X.sep.at_ 0 rfl).free 2
   have f6 := lk X.sep 0 3 rfl rfl
   have f7 := (X.sep.at_ 0 rfl).free 3
   have f8 := lk X.sep 0 4 rfl rfl
   have f9 := (X.sep.at_ 0 rfl).free 4
   replace X := X.put 0 rfl 0 (.int .i64 4)
   replace X := X.put 0 rfl 1 (.int .i64 (1 + v1))
   replace X := X.put 0 rfl 2 (.int .i64 v2)
   replace X := X.put 0 rfl 3 (.int .i64 0)
   replace X := X.put 0 rfl 4 (.int .i64 0)
   replace X : DrL w _ _ _ [.blk (w.heap.size) #[.int .i64 4, .int .i64 (1 + v1), .int .i64 v2, .int .i64 0, .int .i64 0] 33] := X
   have r0 := jd ((X.sep.at_ 0 rfl).cell 0)
   have r1 := jd ((X.sep.at_ 0 rfl).cell 1)
   have r2 := jd ((X.sep.at_ 0 rfl).cell 2)
   have r3 := jd ((X.sep.at_ 0 rfl).cell 3)
   have r4 := jd ((X.sep.at_ 0 rfl).cell 4)
   have CU := jd X.cur
   have GR := jd X.grown
   clear X
   go_wp2
   exact bodyPost_ret (v := .agg #[.int .i64 4, .int .i64 (1 + v1), .int .i64 v2, .int .i64 0, .int .i64 0]) (by simp [results, Try.results29, go_sem, r0.out, r1.out, r2.out, r3.out, r4.out]) rfl ⟨4, 1 + v1, v2, 0, 0, HV.out, rfl, CU.out, GR.out⟩
 · go_wp2_with fail
   refine (lbelow_any _ _ _ X.cur 40 (by decide)).mono ?_
   rintro e w3 ⟨v1, hv1, rfl, cu, gr⟩
   replace X := X.draw cu gr
   clear cu gr
   have hwv1 : IntKind.i64.wrap (1 + v1) = 1 + v1 := by rw [IntKind.wrap_i64]; omega
   have HV := jd (show opB ⟨5, 1 + v1, 0, 0, 0⟩ = true by simp [opB, inB]; omega)
   have f0 := lk X.sep 0 0 rfl rfl
   have f1 := (X.sep.at_ 0 rfl).free 0
   have f2 := lk X.sep 0 1 rfl rfl
   have f3 := (X.sep.at_ 0 rfl).free 1
   have f4 := lk X.sep 0 2 rfl rfl
   have f5 := (X.sep.at_ 0 rfl).free 2
   have f6 := lk X.sep 0 3 rfl rfl
   have f7 := (X.sep.at_ 0 rfl).free 3
   have f8 := lk X.sep 0 4 rfl rfl
   have f9 := (X.sep.at_ 0 rfl).free 4
   replace X := X.put 0 rfl 0 (.int .i64 5)
   replace X := X.put 0 rfl 1 (.int .i64 (1 + v1))
   replace X := X.put 0 rfl 2 (.int .i64 0)
   replace X := X.put 0 rfl 3 (.int .i64 0)
   replace X := X.put 0 rfl 4 (.int .i64 0)
   replace X : DrL w _ _ _ [.blk (w.heap.size) #[.int .i64 5, .int .i64 (1 + v1), .int .i64 0, .int .i64 0, .int .i64 0] 33] := X
   have r0 := jd ((X.sep.at_ 0 rfl).cell 0)
   have r1 := jd ((X.sep.at_ 0 rfl).cell 1)
   have r2 := jd ((X.sep.at_ 0 rfl).cell 2)
   have r3 := jd ((X.sep.at_ 0 rfl).cell 3)
   have r4 := jd ((X.sep.at_ 0 rfl).cell 4)
   have CU := jd X.cur
   have GR := jd X.grown
   clear X
   go_wp2
   exact bodyPost_ret (v := .agg #[.int .i64 5, .int .i64 (1 + v1), .int .i64 0, .int .i64 0, .int .i64 0]) (by simp [results, Try.results29, go_sem, r0.out, r1.out, r2.out, r3.out, r4.out]) rfl ⟨5, 1 + v1, 0, 0, 0, HV.out, rfl, CU.out, GR.out⟩
 · go_wp2_with fail
   refine (lbelow_any _ _ _ X.cur 10 (by decide)).mono ?_
   rintro e w3 ⟨v1, hv1, rfl, cu, gr⟩
   replace X := X.draw cu gr
   clear cu gr
   go_wp2_with fail
   refine (lbelow_any _ _ _ X.cur 1000 (by decide)).mono ?_
   rintro e w4 ⟨v2, hv2, rfl, cu, gr⟩
   replace X := X.draw cu gr
   clear cu gr
   have HV := jd (show opB ⟨1, v1, v2, 0, 0⟩ = true by simp [opB, inB]; omega)
   have f0 := lk X.sep 0 0 rfl rfl
   have f1 := (X.sep.at_ 0 rfl).free 0
   have f2 := lk X.sep 0 1 rfl rfl
   have f3 := (X.sep.at_ 0 rfl).free 1
   have f4 := lk X.sep 0 2 rfl rfl
   have f5 := (X.sep.at_ 0 rfl).free 2
   have f6 := lk X.sep 0 3 rfl rfl
   have f7 := (X.sep.at_ 0 rfl).free 3
   have f8 := lk X.sep 0 4 rfl rfl
   have f9 := (X.sep.at_ 0 rfl).free 4
   replace X := X.put 0 rfl 0 (.int .i64 1)
   replace X := X.put 0 rfl 1 (.int .i64 v1)
   replace X := X.put 0 rfl 2 (.int .i64 v2)
   replace X := X.put 0 rfl 3 (.int .i64 0)
   replace X := X.put 0 rfl 4 (.int .i64 0)
   replace X : DrL w _ _ _ [.blk (w.heap.size) #[.int .i64 1, .int .i64 v1, .int .i64 v2, .int .i64 0, .int .i64 0] 33] := X
   have r0 := jd ((X.sep.at_ 0 rfl).cell 0)
   have r1 := jd ((X.sep.at_ 0 rfl).cell 1)
   have r2 := jd ((X.sep.at_ 0 rfl).cell 2)
   have r3 := jd ((X.sep.at_ 0 rfl).cell 3)
   have r4 := jd ((X.sep.at_ 0 rfl).cell 4)
   have CU := jd X.cur
   have GR := jd X.grown
   clear X
   go_wp2
   exact bodyPost_ret (v := .agg #[.int .i64 1, .int .i64 v1, .int .i64 v2, .int .i64 0, .int .i64 0]) (by simp [results, Try.results29, go_sem, r0.out, r1.out, r2.out, r3.out, r4.out]) rfl ⟨1, v1, v2, 0, 0, HV.out, rfl, CU.out, GR.out⟩
def RunL (l : List EntM) : Prop := ∀ j (hj : j < l.length), entB l[j] = true ∧ l[j].idx = (j : Int) + 1 ∧ ∀ i (hi : i < j), l[i].tm ≤ l[j].tm
theorem RunL.nil : RunL [] := fun j hj => absurd hj (by simp)
theorem RunL.snoc {l : List EntM} {e : EntM} (h : RunL l) (he : entB e = true) (hi : e.idx = (l.length : Int) + 1) (ht : ∀ x ∈ l, x.tm ≤ e.tm) : RunL (l ++ [e]) := by
 intro j hj
 rw [List.length_append, List.length_singleton] at hj
 rcases Nat.lt_or_ge j l.length with h1 | h1
 · obtain ⟨a, b, c⟩ := h j h1
   refine ⟨by rw [List.getElem_append_left h1]; exact a, by rw [List.getElem_append_left h1]; exact b, fun i hi => ?_⟩
   rw [List.getElem_append_left h1, List.getElem_append_left (show i < l.length by omega)]
   exact c i hi
 · obtain rfl : j = l.length := by omega
   refine ⟨by simpa using he, by simpa using hi, fun i hi => ?_⟩
   rw [List.getElem_append_left hi]
   simpa using ht _ (List.getElem_mem hi)
theorem RunL.ok {l : List EntM} (h : RunL l) (hl : l.length ≤ 2000) : entsB l = true := by
 refine entsB_end hl fun j hj => ?_
 rw [entsAt_eq hj, (h j hj).1, Bool.true_and]
 cases j with
 | zero => rfl
 | succ k =>
  rw [nextAt_succ hj, (h (k + 1) hj).2.1, (h k (by omega)).2.1, decide_eq_true ((h (k + 1) hj).2.2 k (by omega)), decide_eq_true (by omega)]
  rfl
theorem rep6 : ∀ i, i < 6 → (List.replicate 6 (0 : Int)).getD i 0 = 0 := by decide
def RunS (l : List EntM) : Prop := RunL l ∧ ∀ j (hj : j < l.length), l[j].sq ≤ 2 * ((j : Int) + 1) ∧ ∀ i (hi : i < j), l[i].cl = l[j].cl → l[i].sq < l[j].sq
theorem RunS.nil : RunS [] := ⟨RunL.nil, fun j hj => absurd hj (by simp)⟩
theorem RunS.snoc {l : List EntM} {e : EntM} (h : RunS l) (he : entB e = true) (hi : e.idx = (l.length : Int) + 1) (ht : ∀ x ∈ l, x.tm ≤ e.tm) (hb : e.sq ≤ 2 * ((l.length : Int) + 1)) (hq : ∀ x ∈ l, x.cl = e.cl → x.sq < e.sq) : RunS (l ++ [e]) := by
 refine ⟨h.1.snoc he hi ht, fun j hj => ?_⟩
 rw [List.length_append, List.length_singleton] at hj
 rcases Nat.lt_or_ge j l.length with h1 | h1
 · obtain ⟨a, b⟩ := h.2 j h1
   refine ⟨by rw [List.getElem_append_left h1]; exact a, fun i hi => ?_⟩
   rw [List.getElem_append_left h1, List.getElem_append_left (show i < l.length by omega)]
   exact b i hi
 · obtain rfl : j = l.length := by omega
   refine ⟨by simpa using hb, fun i hi => ?_⟩
   rw [List.getElem_append_left hi]
   simpa using hq _ (List.getElem_mem hi)
theorem RunL.take {l : List EntM} (h : RunL l) (k : Nat) : RunL (l.take k) := by
 intro j hj
 rw [List.length_take] at hj
 have hjl : j < l.length := by omega
 rw [List.getElem_take]
 exact ⟨(h j hjl).1, (h j hjl).2.1, fun i hi => by rw [List.getElem_take]; exact (h j hjl).2.2 i hi⟩
theorem RunL.ent {l : List EntM} (h : RunL l) {j : Nat} (hj : j < l.length) : entB l[j] = true ∧ l[j].idx = (j : Int) + 1 ∧ 0 ≤ l[j].tm := by
 have h1 := (entB_iff _).1 (h j hj).1
 exact ⟨(h j hj).1, (h j hj).2.1, h1.2.1.1⟩
theorem RunL.book {l : List EntM} (h : RunL l) (hl : l.length ≤ 20) : bookB ⟨0, 0, l⟩ = true := by
 rw [bookB_iff]
 refine ⟨by simp, by simp, .inr rfl, hl, h.ok (by show l.length ≤ 2000; omega), ?_⟩
 unfold headB
 show (decide (l.length = 0) || (decide ((l.getD 0 ent0).idx = 0 + 1) && decide (0 ≤ (l.getD 0 ent0).tm))) = true
 by_cases h0 : l.length = 0
 · rw [decide_eq_true h0, Bool.true_or]
 · have h1 : 0 < l.length := by omega
   obtain ⟨_, h2, h3⟩ := h.ent h1
   rw [egetD h1, decide_eq_true (show l[0].idx = 0 + 1 by rw [h2]; rfl), decide_eq_true h3]
   simp
theorem RunL.next {l : List EntM} (h : RunL l) (hl : l.length ≤ 20) {j : Nat} (hj : j < l.length) : nextB ⟨0, 0, l.take j⟩ l[j] = true := by
 obtain ⟨h1, h2, h3⟩ := h.ent hj
 have hlen : (l.take j).length = j := by rw [List.length_take]; omega
 rw [nextB_iff]
 refine ⟨h1, ?_, ?_, ?_⟩
 · rw [h2]
   unfold lastB
   show (j : Int) + 1 = 0 + ((l.take j).length : Int) + 1
   omega
 · by_cases h0 : j = 0
   · subst h0
     rw [timeAt_none (by show (l.take 0).length = 0; omega)]
     exact h3
   · rw [timeAt_last (by show 0 < (l.take j).length; omega)]
     show ((l.take j).getD ((l.take j).length - 1) ent0).tm ≤ _
     rw [hlen, egetD (show j - 1 < (l.take j).length by omega), List.getElem_take]
     exact (h j hj).2.2 (j - 1) (by omega)
 · show (l.take j).length ≠ 20
   omega
theorem RunL.last {l : List EntM} (h : RunL l) (hl : l.length ≤ 20) : lastM ⟨0, 0, l⟩ = (l.length : Int) := by
 unfold lastM lastB
 rw [if_pos (h.book hl)]
 show (0 : Int) + (l.length : Int) = _
 omega
theorem RunL.filter {l : List EntM} (h : RunL l) (f : Nat) (hf : 1 ≤ f) : (l.filter fun e => decide ((f : Int) ≤ e.idx)) = l.drop (f - 1) := by
 have hl : l = l.take (f - 1) ++ l.drop (f - 1) := (List.take_append_drop _ _).symm
 have e1 : ((l.take (f - 1)).filter fun e => decide ((f : Int) ≤ e.idx)) = [] := by
  rw [List.filter_eq_nil_iff]
  intro x hx
  obtain ⟨j, hj, rfl⟩ := List.getElem_of_mem hx
  rw [List.length_take] at hj
  rw [List.getElem_take, (h j (by omega)).2.1]
  simp
  omega
 have e2 : ((l.drop (f - 1)).filter fun e => decide ((f : Int) ≤ e.idx)) = l.drop (f - 1) := by
  rw [List.filter_eq_self]
  intro x hx
  obtain ⟨j, hj, rfl⟩ := List.getElem_of_mem hx
  rw [List.length_drop] at hj
  rw [List.getElem_drop, (h (f - 1 + j) (by omega)).2.1]
  simp
  omega
 conv => lhs; rw [hl]
 rw [List.filter_append, e1, e2, List.nil_append]
end Go.Proofs.Ytmjifhjhialcbaa

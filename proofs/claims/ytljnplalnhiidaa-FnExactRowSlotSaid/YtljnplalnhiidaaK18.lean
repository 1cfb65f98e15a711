/- Parts of my texts: HeadS7 HeadSC RecB RecN Iter. -/
import Derived.Test.YtljnplalnhiidaaK6
import Derived.Test.YtljnplalnhiidaaK15
import Derived.Test.YtljnplalnhiidaaK16
import Derived.Test.YtljnplalnhiidaaK17
import Derived.Laws.AppendOwn
import Derived.Laws.Append
import Derived.RangeFuncNested
import Derived.RangeFuncBound
import Derived.RangeFuncCalls
import Derived.RangeFuncLeaves
import Derived.Shelf.Abstract
import Derived.Shelf.RegionOpen
import Derived.OwnWalkIn
import Derived.TacticsInMore
import Derived.LoopNIn
import Derived.LoopIn
namespace Go.Proofs.Ytljnplalnhiidaa
set_option maxRecDepth 100000
set_option linter.unusedVariables false
open Go.RowKit
theorem Has.headT {w : World} {base : Nat} {t : HeadM} {v0 v1 v2 v3 : Value} (h : Has w base t.cells [v0, v1, v2, v3]) : v0 = .int .i64 t.num ∧ v1 = .int .i64 t.base ∧ v2 = .int .i64 t.tm ∧ Has w base [mrkD t.seen] [v3] := by
 obtain ⟨fp, o, nd, ge⟩ := h
 obtain ⟨_, _, _, e0, e1, e2, _, _⟩ := o.rd.headT
 obtain ⟨f3, rfl, o3⟩ := Ow.headT o
 rw [List.append_nil] at nd ge
 exact ⟨e0, e1, e2, f3, o3, nd, ge⟩
theorem sHeadOk_c : CHeadOk 10 := fun x0 x1 x2 A n cc l w h hs => sHeadOk_any x0 x1 x2 A n cc _ l w h (Nat.le_refl _) hs
theorem sHeadRow_c : CHeadRow 14 := fun x0 x1 x2 A n cc l w h hs => sHeadRow_any x0 x1 x2 A n cc _ l w h (Nat.le_refl _) hs
theorem sRowHead_c : CRowHead 20 := fun A n cc d w h => sRowHead_any A n cc _ d w h (Nat.le_refl _)
theorem sSlotRow_c : CSlotRow 24 := fun x0 x1 x2 x3 x4 x5 x6 x7 x8 w => sSlotRow_any x0 x1 x2 x3 x4 x5 x6 x7 x8 w
theorem sRowSlot_c : CRowSlot 27 := fun A n cc d w h => sRowSlot_any A n cc _ d w h (Nat.le_refl _)
theorem sSlotOf_c : CSlotOf 30 := fun x w => sSlotOf_any x w
theorem op_bd {o : OpM} (h : opB o = true) : (0 ≤ o.kind ∧ o.kind ≤ 5) ∧ (0 ≤ o.a ∧ o.a ≤ 1000) ∧ (0 ≤ o.b ∧ o.b ≤ 1000000) ∧ (0 ≤ o.c ∧ o.c ≤ 9) ∧ (0 ≤ o.d ∧ o.d ≤ 999) := by
 unfold opB at h
 split at h
 next => simp only [Bool.and_eq_true, inB_iff, decide_eq_true_eq] at h; omega
 next =>
  split at h
  next => simp only [Bool.and_eq_true, inB_iff, decide_eq_true_eq] at h; omega
  next =>
   split at h
   next => simp only [Bool.and_eq_true, inB_iff] at h; omega
   next =>
    split at h
    next => simp only [Bool.and_eq_true, inB_iff, decide_eq_true_eq] at h; omega
    next =>
     split at h
     next => simp only [Bool.and_eq_true, inB_iff, decide_eq_true_eq] at h; omega
     next => cases h
theorem rowOk_mk {r : List Int} (hl : r.length ≤ 48) (h : ∀ x ∈ r, 0 ≤ x ∧ x ≤ 1000000) : rowOk r = true := rowOk_iffS.2 ⟨hl, fun x hx => by have := h x hx; omega⟩
theorem ent_bd {e : EntM} (h : entB e = true) : ∀ x ∈ entNs e ++ [e.idx, e.idx], 0 ≤ x ∧ x ≤ 1000000 := by
 obtain ⟨h1, h2, h3, h4, h5⟩ := (entB_iff e).1 h
 obtain ⟨o1, o2, o3, o4, o5⟩ := op_bd h5
 have q1 : e.op.kind = e.kd := rfl
 have q2 : e.op.a = e.oa := rfl
 have q3 : e.op.b = e.ob := rfl
 have q4 : e.op.c = e.oc := rfl
 have q5 : e.op.d = e.od := rfl
 rw [q1] at o1; rw [q2] at o2; rw [q3] at o3; rw [q4] at o4; rw [q5] at o5
 intro x hx
 simp only [entNs, List.cons_append, List.nil_append, List.mem_cons, List.not_mem_nil, or_false] at hx
 rcases hx with rfl | rfl | rfl | rfl | rfl | rfl | rfl | rfl | rfl | rfl | rfl <;> omega
theorem slotRow_yes {e : EntM} (h : entB e = true) : slotRowM e = entNs e ++ [e.idx, e.idx] := by unfold slotRowM; rw [if_pos h]
theorem ofEnt_ns (e : EntM) : ofEnt (entNs e) = e := rfl
theorem slot_back {e : EntM} (h : entB e = true) : rowSlotM (slotRowM e) = (e, true) := by
 rw [slotRow_yes h]
 unfold rowSlotM
 rw [if_pos ((twice_iff _ _).2 ⟨by simp [entNs], by simp [entNs], by simp [entNs]⟩)]
 have : (entNs e ++ [e.idx, e.idx]).take 9 = entNs e := by simp [entNs]
 rw [this]
 unfold rowEntM
 rw [if_pos (by simp [entNs]), ofEnt_ns, if_pos h]
theorem rowSlot_len {r : List Int} (h : r.length ≠ 11) : rowSlotM r = (ent0, false) := by
 unfold rowSlotM
 rw [if_neg (by rw [twice_no (fun h9 => h (by have := h9.1; omega))]; decide)]
theorem rowHead_len {r : List Int} (h : r.length ≠ 13) : rowHeadM r = (headZ, false) := by
 unfold rowHeadM
 rw [if_neg (by rw [twice_no (fun h9 => h (by have := h9.1; omega))]; decide)]
theorem rowSlot_is {r : List Int} {e : EntM} (h : rowSlotM r = (e, true)) : r = slotRowM e ∧ entB e = true := by
 unfold rowSlotM at h
 split at h
 next ht =>
  obtain ⟨t1, t2, t3⟩ := (twice_iff _ _).1 ht
  unfold rowEntM at h
  split at h
  next =>
   split at h
   next hb =>
    have he : ofEnt (r.take 9) = e := congrArg Prod.fst h
    subst he
    refine ⟨?_, hb⟩
    rw [slotRow_yes hb]
    match r, t1 with
    | [a0, a1, a2, a3, a4, a5, a6, a7, a8, a9, a10], _ =>
     have e1 : a9 = a0 := t2
     have e2 : a10 = a0 := t3
     subst e1 e2
     rfl
   next => cases congrArg Prod.snd h
  next => cases congrArg Prod.snd h
 next => cases congrArg Prod.snd h
theorem findM_bd {l : List MarkM} (h : seenB l = true) (c : Int) : (0 ≤ (findM l c).ms ∧ (findM l c).ms ≤ 2000) ∧ (0 ≤ (findM l c).mi ∧ (findM l c).mi ≤ 2000) := by
 unfold findM
 cases hf : l.find? fun x => x.mc == c with
 | none => exact ⟨by decide, by decide⟩
 | some m =>
  have := (markB_iff m).1 ((seen_pairs h).1 m (List.mem_of_find?_eq_some hf))
  show (0 ≤ m.ms ∧ m.ms ≤ 2000) ∧ (0 ≤ m.mi ∧ m.mi ≤ 2000)
  omega
theorem markOf_find {l : List MarkM} (h : seenB l = true) (c : Int) : markOf l c = findM l c := by unfold markOf; rw [if_pos h]
theorem markNs_bd {l : List MarkM} (h : seenB l = true) : ∀ k, ∀ x ∈ markNs l k, 0 ≤ x ∧ x ≤ 2000
 | 0, x, hx => by cases hx
 | k + 1, x, hx => by
  rcases List.mem_append.1 (show x ∈ markNs l k ++ _ from hx) with hx | hx
  · exact markNs_bd h k x hx
  · have := findM_bd h (2 + (k : Int))
    rw [markOf_find h] at hx
    simp only [List.mem_cons, List.not_mem_nil, or_false] at hx
    rcases hx with rfl | rfl <;> omega
theorem headRow_yes {h : HeadM} (ho : headOkB h = true) : headRowM h = ([h.num, h.base, h.tm] ++ markNs h.seen 4) ++ [h.num, h.num] := by unfold headRowM; rw [if_pos ho]
theorem headRow_ok {h : HeadM} (ho : headOkB h = true) : rowOk (headRowM h) = true ∧ (headRowM h).length = 13 := by
 obtain ⟨h1, h2, h3, _, h5, _⟩ := (headOkB_iff h).1 ho
 rw [headRow_yes ho]
 refine ⟨rowOk_mk (by simp [markNs_len]) fun x hx => ?_, by simp [markNs_len]⟩
 simp only [List.mem_append, List.mem_cons, List.not_mem_nil, or_false] at hx
 rcases hx with ((rfl | rfl | rfl) | hx) | (rfl | rfl)
 · omega
 · omega
 · omega
 · have := markNs_bd h5 4 x hx; omega
 · omega
 · omega
theorem markNs_at (l : List MarkM) : ∀ k j, j < k → (markNs l k).getD (2 * j) 0 = (markOf l (2 + (j : Int))).ms ∧ (markNs l k).getD (2 * j + 1) 0 = (markOf l (2 + (j : Int))).mi
 | 0, j, h => absurd h (by omega)
 | k + 1, j, h => by
  have hl := markNs_len l k
  show ((markNs l k ++ _).getD (2 * j) 0 = _) ∧ ((markNs l k ++ _).getD (2 * j + 1) 0 = _)
  by_cases hj : j < k
  · have ih := markNs_at l k j hj
    rw [List.getD_eq_getElem?_getD, List.getD_eq_getElem?_getD, List.getElem?_append_left (by omega), List.getElem?_append_left (by omega), ← List.getD_eq_getElem?_getD, ← List.getD_eq_getElem?_getD]
    exact ih
  · obtain rfl : j = k := by omega
    rw [List.getD_eq_getElem?_getD, List.getD_eq_getElem?_getD, List.getElem?_append_right (by omega), List.getElem?_append_right (by omega), hl, Nat.sub_self, show 2 * j + 1 - 2 * j = 1 by omega]
    exact ⟨rfl, rfl⟩
theorem headRow_mark {h : HeadM} (ho : headOkB h = true) {k : Nat} (hk : k < 4) : markIn (headRowM h) k = ⟨2 + (k : Int), (findM h.seen (2 + (k : Int))).ms, (findM h.seen (2 + (k : Int))).mi⟩ := by
 have h5 := ((headOkB_iff h).1 ho).2.2.2.2.1
 have h6 := markNs_at h.seen 4 k hk
 have hl := markNs_len h.seen 4
 rw [headRow_yes ho]
 unfold markIn
 have e : ∀ q, q < 8 → (([h.num, h.base, h.tm] ++ markNs h.seen 4) ++ [h.num, h.num]).getD (q + 3) 0 = (markNs h.seen 4).getD q 0 := fun q hq => by
  rw [List.getD_eq_getElem?_getD, List.getD_eq_getElem?_getD, List.append_assoc, List.getElem?_append_right (by simp), List.getElem?_append_left (by simp; omega)]
  simp
 rw [e (2 * k) (by omega), show 2 * k + 4 = (2 * k + 1) + 3 by omega, e (2 * k + 1) (by omega), h6.1, h6.2, markOf_find h5]
theorem marks_front {l : List MarkM} (h : seenB l = true) (k : Nat) : (l.filter fun m => decide (m.mc < 2 + ((k + 1 : Nat) : Int))) = (l.filter fun m => decide (m.mc < 2 + (k : Int))) ++ (l.filter fun m => decide (m.mc = 2 + (k : Int))) := by
 have hp := (seen_pairs h).2.1
 clear h
 induction l with
 | nil => rfl
 | cons a t ih =>
  obtain ⟨h1, h2⟩ := List.pairwise_cons.1 hp
  have h3 := ih h2
  have P : ∀ (p : MarkM → Bool), p a = true → (a :: t).filter p = a :: t.filter p := fun p hp => List.filter_cons_of_pos hp
  have N : ∀ (p : MarkM → Bool), ¬ p a = true → (a :: t).filter p = t.filter p := fun p hp => List.filter_cons_of_neg hp
  by_cases e1 : a.mc < 2 + (k : Int)
  · rw [P (fun m => decide (m.mc < 2 + ((k + 1 : Nat) : Int))) (by simp; omega), P (fun m => decide (m.mc < 2 + (k : Int))) (by simpa using e1), N (fun m => decide (m.mc = 2 + (k : Int))) (by simp; omega), h3]
    rfl
  · by_cases e2 : a.mc = 2 + (k : Int)
    · have h4 : (t.filter fun m => decide (m.mc < 2 + (k : Int))) = [] := List.filter_eq_nil_iff.2 fun m hm => by have := h1 m hm; simp; omega
      rw [P (fun m => decide (m.mc < 2 + ((k + 1 : Nat) : Int))) (by simp; omega), N (fun m => decide (m.mc < 2 + (k : Int))) (by simpa using e1), P (fun m => decide (m.mc = 2 + (k : Int))) (by simpa using e2), h3, h4]
      rfl
    · rw [N (fun m => decide (m.mc < 2 + ((k + 1 : Nat) : Int))) (by simp; omega), N (fun m => decide (m.mc < 2 + (k : Int))) (by simpa using e1), N (fun m => decide (m.mc = 2 + (k : Int))) (by simpa using e2), h3]
theorem filter_solo {l : List MarkM} (h : seenB l = true) (c : Int) : (l.filter fun m => decide (m.mc = c)) = if (findM l c).ms ≠ 0 ∨ (findM l c).mi ≠ 0 then [⟨c, (findM l c).ms, (findM l c).mi⟩] else [] := by
 have hp := (seen_pairs h).2.1
 have hb := (seen_pairs h).1
 clear h
 unfold findM
 induction l with
 | nil => rfl
 | cons a t ih =>
  obtain ⟨h1, h2⟩ := List.pairwise_cons.1 hp
  by_cases e : a.mc = c
  · have h4 : (t.filter fun m => decide (m.mc = c)) = [] := List.filter_eq_nil_iff.2 fun m hm => by have := h1 m hm; simp; omega
    have h5 := (markB_iff a).1 (hb a (by simp))
    rw [List.filter_cons, if_pos (by simpa using e), h4, List.find?_cons, show (a.mc == c) = true by simpa using e]
    show [a] = if a.ms ≠ 0 ∨ a.mi ≠ 0 then [⟨c, a.ms, a.mi⟩] else []
    rw [if_pos (Or.inl (by omega)), ← e]
  · rw [List.filter_cons, if_neg (by simpa using e), List.find?_cons, show (a.mc == c) = false by simpa using e]
    exact ih h2 fun m hm => hb m (List.mem_cons_of_mem _ hm)
theorem head_marks {h : HeadM} (ho : headOkB h = true) : ofMarks (headRowM h) 4 = h.seen := by
 have h5 := ((headOkB_iff h).1 ho).2.2.2.2.1
 have h6 : ∀ k, k ≤ 4 → ofMarks (headRowM h) k = h.seen.filter fun m => decide (m.mc < 2 + (k : Int)) := by
  intro k
  induction k with
  | zero =>
   intro _
   symm
   refine List.filter_eq_nil_iff.2 fun m hm => ?_
   have := (markB_iff m).1 ((seen_pairs h5).1 m hm)
   simp
   omega
  | succ k ih =>
   intro hk
   rw [marks_front h5, ← ih (by omega), filter_solo h5]
   show ofMarks (headRowM h) k ++ _ = _
   rw [headRow_mark ho (show k < 4 by omega)]
 rw [h6 4 (Nat.le_refl _)]
 refine List.filter_eq_self.2 fun m hm => ?_
 have := (markB_iff m).1 ((seen_pairs h5).1 m hm)
 simp
 omega
theorem head_back {h : HeadM} (ho : headOkB h = true) : rowHeadM (headRowM h) = (h, true) := by
 have hl := markNs_len h.seen 4
 have e0 : (headRowM h).getD 0 0 = h.num := by rw [headRow_yes ho]; rfl
 have e11 : (headRowM h).getD 11 0 = h.num := by
  rw [headRow_yes ho, List.getD_eq_getElem?_getD, List.getElem?_append_right (by simp [hl])]
  simp [hl]
 have e12 : (headRowM h).getD 12 0 = h.num := by
  rw [headRow_yes ho, List.getD_eq_getElem?_getD, List.getElem?_append_right (by simp [hl])]
  simp [hl]
 have e : ofHead (headRowM h) = h := by
  unfold ofHead
  rw [head_marks ho, e0, show (headRowM h).getD 1 0 = h.base by rw [headRow_yes ho]; rfl, show (headRowM h).getD 2 0 = h.tm by rw [headRow_yes ho]; rfl]
 unfold rowHeadM
 rw [if_pos ((twice_iff _ _).2 ⟨(headRow_ok ho).2, by rw [e0, e11], by rw [e0, e12]⟩), e, if_pos ho]
def nzM (r : List Int) (k : Nat) : Bool := decide ((markIn r k).ms ≠ 0 ∨ (markIn r k).mi ≠ 0)
theorem find_ofMarks (r : List Int) (k : Nat) : ∀ n, (ofMarks r n).find? (fun x => x.mc == 2 + (k : Int)) = if k < n ∧ nzM r k = true then some (markIn r k) else none
 | 0 => by rw [if_neg (by omega)]; rfl
 | n + 1 => by
  have ih := find_ofMarks r k n
  have hmc : (markIn r n).mc = 2 + (n : Int) := rfl
  by_cases hz : (markIn r n).ms ≠ 0 ∨ (markIn r n).mi ≠ 0
  · rw [ofMarks_yes hz, List.find?_append, ih]
    by_cases e : k = n
    · subst e
      have hnz : nzM r k = true := decide_eq_true hz
      rw [if_neg (by omega), if_pos ⟨by omega, hnz⟩, List.find?_cons, show ((markIn r k).mc == 2 + (k : Int)) = true by rw [hmc]; exact beq_self_eq_true _]
      rfl
    · have h1 : [markIn r n].find? (fun x => x.mc == 2 + (k : Int)) = none := by
        rw [List.find?_cons, show ((markIn r n).mc == 2 + (k : Int)) = false by rw [hmc]; exact beq_eq_false_iff_ne.2 (by omega)]
        rfl
      rw [h1, Option.or_none]
      by_cases h2 : k < n ∧ nzM r k = true
      · rw [if_pos h2, if_pos ⟨by omega, h2.2⟩]
      · rw [if_neg h2, if_neg (fun h3 => h2 ⟨by omega, h3.2⟩)]
  · have hz' : (markIn r n).ms = 0 ∧ (markIn r n).mi = 0 := by omega
    rw [ofMarks_no hz', ih]
    by_cases e : k = n
    · subst e
      have hnz : ¬ nzM r k = true := by unfold nzM; rw [decide_eq_true_eq]; exact hz
      rw [if_neg (by omega), if_neg (fun h3 => hnz h3.2)]
    · by_cases h2 : k < n ∧ nzM r k = true
      · rw [if_pos h2, if_pos ⟨by omega, h2.2⟩]
      · rw [if_neg h2, if_neg (fun h3 => h2 ⟨by omega, h3.2⟩)]
theorem findM_of (r : List Int) {k : Nat} (hk : k < 4) : (findM (ofMarks r 4) (2 + (k : Int))).ms = (markIn r k).ms ∧ (findM (ofMarks r 4) (2 + (k : Int))).mi = (markIn r k).mi := by
 unfold findM
 rw [find_ofMarks r k 4]
 by_cases h : nzM r k = true
 · rw [if_pos ⟨hk, h⟩]
   exact ⟨rfl, rfl⟩
 · rw [if_neg (fun h9 => h h9.2)]
   unfold nzM at h
   rw [decide_eq_true_eq] at h
   have hz : (markIn r k).ms = 0 ∧ (markIn r k).mi = 0 := by omega
   rw [hz.1, hz.2]
   exact ⟨rfl, rfl⟩
theorem rowHead_is {r : List Int} {h : HeadM} (hr : rowHeadM r = (h, true)) : r = headRowM h ∧ headOkB h = true := by
 unfold rowHeadM at hr
 split at hr
 next ht =>
  split at hr
  next ho =>
   obtain ⟨t1, t2, t3⟩ := (twice_iff _ _).1 ht
   have he : ofHead r = h := congrArg Prod.fst hr
   subst he
   refine ⟨?_, ho⟩
   have h5 : seenB (ofMarks r 4) = true := ((headOkB_iff _).1 ho).2.2.2.2.1
   have hf : ∀ k : Nat, k < 4 → (markOf (ofMarks r 4) (2 + (k : Int))).ms = (markIn r k).ms ∧ (markOf (ofMarks r 4) (2 + (k : Int))).mi = (markIn r k).mi := fun k hk => by
    rw [markOf_find h5]
    exact findM_of r hk
   rw [headRow_yes ho]
   obtain ⟨a, b⟩ := hf 0 (by decide)
   obtain ⟨a1, b1⟩ := hf 1 (by decide)
   obtain ⟨a2, b2⟩ := hf 2 (by decide)
   obtain ⟨a3, b3⟩ := hf 3 (by decide)
   have hm : markNs (ofMarks r 4) 4 = [(markIn r 0).ms, (markIn r 0).mi, (markIn r 1).ms, (markIn r 1).mi, (markIn r 2).ms, (markIn r 2).mi, (markIn r 3).ms, (markIn r 3).mi] := by
    rw [← a, ← b, ← a1, ← b1, ← a2, ← b2, ← a3, ← b3]
    rfl
   show r = ([r.getD 0 0, r.getD 1 0, r.getD 2 0] ++ markNs (ofMarks r 4) 4) ++ [r.getD 0 0, r.getD 0 0]
   rw [hm]
   match r, t1 with
   | [c0, c1, c2, c3, c4, c5, c6, c7, c8, c9, c10, c11, c12], _ =>
    have e1 : c11 = c0 := t2
    have e2 : c12 = c0 := t3
    subst e1 e2
    rfl
  next => cases congrArg Prod.snd hr
 next => cases congrArg Prod.snd hr
theorem rowHead_same {r : List Int} (hl : r.length = 13) : rowHeadM r = if headRowM (ofHead r) = r then (ofHead r, true) else (headZ, false) := by
 split
 next h =>
  have ho : headOkB (ofHead r) = true := by
   cases hb : headOkB (ofHead r)
   · unfold headRowM at h
     rw [hb] at h
     rw [← h] at hl
     cases hl
   · rfl
  have h1 := head_back ho
  rw [h] at h1
  exact h1
 next h =>
  cases hb : (rowHeadM r).2
  · unfold rowHeadM at hb ⊢
    split
    next ht =>
     rw [if_pos ht] at hb
     split
     next ho => rw [if_pos ho] at hb; cases hb
     next => rfl
    next => rfl
  · have h1 : rowHeadM r = ((rowHeadM r).1, true) := by rw [← hb]
    obtain ⟨h2, h3⟩ := rowHead_is h1
    have h4 : (rowHeadM r).1 = ofHead r := by
     unfold rowHeadM at hb ⊢
     split
     next ht =>
      rw [if_pos ht] at hb
      split
      next => rfl
      next ho => rw [if_neg ho] at hb; cases hb
     next ht => rw [if_neg ht] at hb; cases hb
    rw [h4] at h2
    exact absurd h2.symm h
theorem rowSlot_same {r : List Int} (hl : r.length = 11) : rowSlotM r = if (rowEntM (r.take 9)).2 = true ∧ slotRowM (rowEntM (r.take 9)).1 = r then ((rowEntM (r.take 9)).1, true) else (ent0, false) := by
 split
 next h =>
  obtain ⟨h1, h2⟩ := h
  have ho : entB (rowEntM (r.take 9)).1 = true := by
   cases hb : entB (rowEntM (r.take 9)).1
   · unfold slotRowM at h2
     rw [hb] at h2
     rw [← h2] at hl
     cases hl
   · rfl
  have h3 := slot_back ho
  rw [h2] at h3
  exact h3
 next h =>
  cases hb : (rowSlotM r).2
  · unfold rowSlotM at hb ⊢
    split
    next ht =>
     rw [if_pos ht] at hb
     unfold rowEntM at hb ⊢
     split
     next hq =>
      rw [if_pos hq] at hb
      split
      next ho => rw [if_pos ho] at hb; cases hb
      next => rfl
     next => rfl
    next => rfl
  · have h1 : rowSlotM r = ((rowSlotM r).1, true) := by rw [← hb]
    obtain ⟨h2, h3⟩ := rowSlot_is h1
    have h4 : rowSlotM r = rowEntM (r.take 9) := by
     unfold rowSlotM at hb ⊢
     split
     next => rfl
     next ht => rw [if_neg ht] at hb; cases hb
    rw [h4] at h2 hb
    exact absurd ⟨hb, h2.symm⟩ h
section
variable {w w' : World} {base : Nat} {is : List Item} {ds : List Dat} {vs : List Value} {fp : List Nat}
end
theorem keeps_touch {S : List Nat} {W W' : World} (t : Touch S W W') (hS : ∀ p ∈ S, p < W.heap.size → ∃ o : Obj, W.heap[p]? = some o ∧ o.isCells = true) : KeepsOthers W W' :=
 ⟨t.size, fun k o hk ho => by
  have hlt := (Array.getElem?_eq_some_iff.1 hk).1
  refine (t.block k hlt fun hm => ?_).trans hk
  obtain ⟨o', h1, h2⟩ := hS k hm hlt
  rw [hk] at h1
  injection h1 with h1
  rw [← h1, ho] at h2
  cases h2⟩
section
variable {α : Type} {f : α → List Dat} {e : TypeId} {k : Nat} {w : World} {l : List α} {fp : List Nat}
end
end Go.Proofs.Ytljnplalnhiidaa

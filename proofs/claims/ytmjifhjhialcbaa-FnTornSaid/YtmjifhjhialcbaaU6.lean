/- Parts of my texts: HeadM Book BookM BookN RecA RecB. -/
import Derived.Test.YtmjifhjhialcbaaU3
import Derived.Test.YtmjifhjhialcbaaU5
namespace Go.Proofs.Ytmjifhjhialcbaa
set_option maxRecDepth 100000
set_option linter.unusedVariables false
open Go.RowKit
def headZ : HeadM := ⟨0, 0, 0, []⟩
def headOkB (t : HeadM) : Bool := inB t.base 0 2000 && (inB t.num 0 t.base && (inB t.tm 0 1000000 && ((decide (0 < t.base) || decide (t.tm = 0)) && (seenB t.seen && decide (lastS t.seen = t.base)))))
theorem headOkB_iff (t : HeadM) : headOkB t = true ↔ (0 ≤ t.base ∧ t.base ≤ 2000) ∧ (0 ≤ t.num ∧ t.num ≤ t.base) ∧ (0 ≤ t.tm ∧ t.tm ≤ 1000000) ∧ (0 < t.base ∨ t.tm = 0) ∧ seenB t.seen = true ∧ lastS t.seen = t.base := by
 unfold headOkB
 simp only [Bool.and_eq_true, Bool.or_eq_true, inB_iff, decide_eq_true_eq]
def markNs (l : List MarkM) : Nat → List Int
 | 0 => []
 | k + 1 => markNs l k ++ [(markOf l (2 + (k : Int))).ms, (markOf l (2 + (k : Int))).mi]
theorem markNs_len (l : List MarkM) (k : Nat) : (markNs l k).length = 2 * k := by
 induction k with
 | zero => rfl
 | succ k ih => simp only [markNs, List.length_append, ih, List.length_cons, List.length_nil]; omega
def headRowM (t : HeadM) : List Int := if headOkB t = true then ([t.num, t.base, t.tm] ++ markNs t.seen 4) ++ [t.num, t.num] else []
theorem headRowM_len (t : HeadM) : (headRowM t).length ≤ 13 := by
 unfold headRowM
 split
 · simp [markNs_len]
 · simp
def markIn (r : List Int) (k : Nat) : MarkM := ⟨2 + (k : Int), r.getD (2 * k + 3) 0, r.getD (2 * k + 4) 0⟩
def ofMarks (r : List Int) : Nat → List MarkM
 | 0 => []
 | k + 1 => ofMarks r k ++ (if (markIn r k).ms ≠ 0 ∨ (markIn r k).mi ≠ 0 then [markIn r k] else [])
theorem ofMarks_len (r : List Int) (k : Nat) : (ofMarks r k).length ≤ k := by
 induction k with
 | zero => simp [ofMarks]
 | succ k ih =>
  simp only [ofMarks, List.length_append]
  split <;> simp <;> omega
theorem ofMarks_yes {r : List Int} {k : Nat} (h : (markIn r k).ms ≠ 0 ∨ (markIn r k).mi ≠ 0) : ofMarks r (k + 1) = ofMarks r k ++ [markIn r k] := by
 simp only [ofMarks]
 rw [if_pos h]
theorem ofMarks_no {r : List Int} {k : Nat} (h : (markIn r k).ms = 0 ∧ (markIn r k).mi = 0) : ofMarks r (k + 1) = ofMarks r k := by
 simp only [ofMarks]
 rw [if_neg (by rw [h.1, h.2]; decide), List.append_nil]
def ofHead (r : List Int) : HeadM := ⟨r.getD 0 0, r.getD 1 0, r.getD 2 0, ofMarks r 4⟩
def twice (r : List Int) (n : Nat) : Bool := decide (r.length = n + 2) && (decide (r.getD n 0 = r.getD 0 0) && decide (r.getD (n + 1) 0 = r.getD 0 0))
theorem twice_iff (r : List Int) (n : Nat) : twice r n = true ↔ r.length = n + 2 ∧ r.getD n 0 = r.getD 0 0 ∧ r.getD (n + 1) 0 = r.getD 0 0 := by
 unfold twice
 simp only [Bool.and_eq_true, decide_eq_true_eq]
theorem twice_no {r : List Int} {n : Nat} (h : ¬ (r.length = n + 2 ∧ r.getD n 0 = r.getD 0 0 ∧ r.getD (n + 1) 0 = r.getD 0 0)) : twice r n = false := by
 rw [Bool.eq_false_iff]
 intro h2
 exact h ((twice_iff r n).1 h2)
def rowHeadM (r : List Int) : HeadM × Bool := if twice r 11 = true then (if headOkB (ofHead r) = true then (ofHead r, true) else (headZ, false)) else (headZ, false)
def slotRowM (e : EntM) : List Int := if entB e = true then entNs e ++ [e.idx, e.idx] else []
theorem slotRowM_len (e : EntM) : (slotRowM e).length ≤ 11 := by
 unfold slotRowM
 split <;> simp [entNs]
def rowSlotM (r : List Int) : EntM × Bool := if twice r 9 = true then rowEntM (r.take 9) else (ent0, false)
structure BookM where
 base : Int
 tm : Int
 ents : List EntM
def headB (b : BookM) : Bool := decide (b.ents.length = 0) || (decide ((b.ents.getD 0 ent0).idx = b.base + 1) && decide (b.tm ≤ (b.ents.getD 0 ent0).tm))
def bookB (b : BookM) : Bool := inB b.base 0 2000 && (inB b.tm 0 1000000 && ((decide (b.base ≠ 0) || decide (b.tm = 0)) && (decide (b.ents.length ≤ 20) && (entsB b.ents && headB b))))
def lastB (b : BookM) : Int := b.base + (b.ents.length : Int)
def lastM (b : BookM) : Int := if bookB b = true then lastB b else 0
def timeAt (b : BookM) (i : Int) : Int := if i = b.base then b.tm else (b.ents.getD (i - b.base - 1).toNat ent0).tm
def nextB (b : BookM) (e : EntM) : Bool := entB e && (decide (e.idx = lastB b + 1) && (decide (timeAt b (lastB b) ≤ e.tm) && decide (b.ents.length ≠ 20)))
theorem bookB_iff (b : BookM) : bookB b = true ↔ (0 ≤ b.base ∧ b.base ≤ 2000) ∧ (0 ≤ b.tm ∧ b.tm ≤ 1000000) ∧ (b.base ≠ 0 ∨ b.tm = 0) ∧ b.ents.length ≤ 20 ∧ entsB b.ents = true ∧ headB b = true := by
 unfold bookB
 simp only [Bool.and_eq_true, Bool.or_eq_true, inB_iff, decide_eq_true_eq]
theorem timeAt_base (b : BookM) : timeAt b b.base = b.tm := if_pos rfl
theorem timeAt_in {b : BookM} {j : Nat} (hj : j < b.ents.length) : timeAt b (b.base + 1 + (j : Int)) = b.ents[j].tm := by
 unfold timeAt
 rw [if_neg (by omega), show (b.base + 1 + (j : Int) - b.base - 1).toNat = j by omega, egetD hj]
theorem timeAt_last {b : BookM} (h0 : 0 < b.ents.length) : timeAt b (lastB b) = (b.ents.getD (b.ents.length - 1) ent0).tm := by
 have h1 : b.ents.length - 1 < b.ents.length := by omega
 rw [egetD h1, ← timeAt_in h1]
 congr 1
 unfold lastB
 omega
theorem timeAt_none {b : BookM} (h0 : b.ents.length = 0) : timeAt b (lastB b) = b.tm := by
 rw [show lastB b = b.base by unfold lastB; omega, timeAt_base]
theorem nextB_iff (b : BookM) (e : EntM) : nextB b e = true ↔ entB e = true ∧ e.idx = lastB b + 1 ∧ timeAt b (lastB b) ≤ e.tm ∧ b.ents.length ≠ 20 := by
 unfold nextB
 simp only [Bool.and_eq_true, decide_eq_true_eq]
theorem withSum_ok {r : List Int} (h : rowOk r = true) (hl : r.length < 48) : rowOk (withSum r) = true := by
 have hb := sumOf_bd h
 rw [withSum_yes h hl]
 exact rowOk_snoc h hl hb.1 hb.2
theorem withSum_lenR {r : List Int} (h : rowOk r = true) (hl : r.length < 48) : (withSum r).length = r.length + 1 := by
 rw [withSum_yes h hl, List.length_append, List.length_singleton]
theorem has_at {d : DiskM} {I : Nat} (hI : I < d.kept.length) : hasS d (I : Int) = true := by
 unfold hasS
 rw [Bool.and_eq_true, decide_eq_true_eq, decide_eq_true_eq]
 omega
theorem read_safe {ks : List (List Int)} (h : diskOk ⟨ks, []⟩ = true) {I : Nat} (hI : I < ks.length) : readAt ⟨ks, []⟩ (I : Int) = (ks.getD I [], true) := by
 unfold readAt
 rw [if_pos ⟨h, has_at hI⟩]
 rfl
theorem ok_set {ks : List (List Int)} (h : diskOk ⟨ks, []⟩ = true) {I : Nat} {r : List Int} (hr : rowOk r = true) : diskOk ⟨ks.set I r, []⟩ = true := by
 obtain ⟨h1, h2, h3, h4⟩ := diskOk_iff.1 h
 refine diskOk_iff.2 ⟨by simpa using h1, h2, ?_, by rfl⟩
 exact List.all_eq_true.2 (mem_set_ok (List.all_eq_true.1 h3) hr)
theorem wrote_safe {ks : List (List Int)} (h : diskOk ⟨ks, []⟩ = true) {I : Nat} (hI : I < ks.length) {r : List Int} (hr : rowOk r = true) : wrote ⟨ks, []⟩ (I : Int) r = (⟨ks, [((I : Int), r)]⟩, true) := by
 unfold wrote
 rw [if_pos h, if_pos ⟨has_at hI, hr, (by decide : (0 : Nat) < 60)⟩]
 rfl
theorem ok_one {ks : List (List Int)} (h : diskOk ⟨ks, []⟩ = true) {I : Nat} (hI : I < ks.length) {r : List Int} (hr : rowOk r = true) : diskOk ⟨ks, [((I : Int), r)]⟩ = true := by
 obtain ⟨h1, h2, h3, h4⟩ := diskOk_iff.1 h
 refine diskOk_iff.2 ⟨h1, by simp, h3, ?_⟩
 have : hasS (⟨ks, [((I : Int), r)]⟩ : DiskM) (I : Int) = true := has_at hI
 simp [wrOk, this, hr]
theorem synced_one {ks : List (List Int)} (h : diskOk ⟨ks, []⟩ = true) {I : Nat} (hI : I < ks.length) {r : List Int} (hr : rowOk r = true) : synced ⟨ks, [((I : Int), r)]⟩ = ⟨ks.set I r, []⟩ := by
 unfold synced
 rw [if_pos (ok_one h hI hr)]
 unfold fall
 show (⟨fellTo true [] ks [((I : Int), r)] 1, []⟩ : DiskM) = _
 simp [fellTo, fell]
theorem op_bd {o : OpM} (h : opB o = true) : (0 ≤ o.kind ∧ o.kind ≤ 5) ∧ (0 ≤ o.a ∧ o.a ≤ 1000) ∧ (0 ≤ o.b ∧ o.b ≤ 1000000) ∧ (0 ≤ o.c ∧ o.c ≤ 9) ∧ (0 ≤ o.d ∧ o.d ≤ 999) := by
 unfold opB at h
 split at h
 next => simp only [Bool.and_eq_true, inB_iff, decide_eq_true_eq] at h; omega
 next =>
  split at h
  next => simp only [Bool.and_eq_true, inB_iff, decide_eq_true_eq] at h; omega
  next =>
   split at h
   next => simp only [Bool.and_eq_true, inB_iff] at h; omega
   next =>
    split at h
    next => simp only [Bool.and_eq_true, inB_iff, decide_eq_true_eq] at h; omega
    next =>
     split at h
     next => simp only [Bool.and_eq_true, inB_iff, decide_eq_true_eq] at h; omega
     next => cases h
theorem rowOk_mk {r : List Int} (hl : r.length ≤ 48) (h : ∀ x ∈ r, 0 ≤ x ∧ x ≤ 1000000) : rowOk r = true := rowOk_iffS.2 ⟨hl, fun x hx => by have := h x hx; omega⟩
theorem ent_bd {e : EntM} (h : entB e = true) : ∀ x ∈ entNs e ++ [e.idx, e.idx], 0 ≤ x ∧ x ≤ 1000000 := by
 obtain ⟨h1, h2, h3, h4, h5⟩ := (entB_iff e).1 h
 obtain ⟨o1, o2, o3, o4, o5⟩ := op_bd h5
 have q1 : e.op.kind = e.kd := rfl
 have q2 : e.op.a = e.oa := rfl
 have q3 : e.op.b = e.ob := rfl
 have q4 : e.op.c = e.oc := rfl
 have q5 : e.op.d = e.od := rfl
 rw [q1] at o1; rw [q2] at o2; rw [q3] at o3; rw [q4] at o4; rw [q5] at o5
 intro x hx
 simp only [entNs, List.cons_append, List.nil_append, List.mem_cons, List.not_mem_nil, or_false] at hx
 rcases hx with rfl | rfl | rfl | rfl | rfl | rfl | rfl | rfl | rfl | rfl | rfl <;> omega
theorem slotRow_yes {e : EntM} (h : entB e = true) : slotRowM e = entNs e ++ [e.idx, e.idx] := by unfold slotRowM; rw [if_pos h]
theorem slotRow_ok {e : EntM} (h : entB e = true) : rowOk (slotRowM e) = true ∧ (slotRowM e).length = 11 := by
 rw [slotRow_yes h]
 exact ⟨rowOk_mk (by simp [entNs]) (ent_bd h), by simp [entNs]⟩
theorem ofEnt_ns (e : EntM) : ofEnt (entNs e) = e := rfl
theorem slot_back {e : EntM} (h : entB e = true) : rowSlotM (slotRowM e) = (e, true) := by
 rw [slotRow_yes h]
 unfold rowSlotM
 rw [if_pos ((twice_iff _ _).2 ⟨by simp [entNs], by simp [entNs], by simp [entNs]⟩)]
 have : (entNs e ++ [e.idx, e.idx]).take 9 = entNs e := by simp [entNs]
 rw [this]
 unfold rowEntM
 rw [if_pos (by simp [entNs]), ofEnt_ns, if_pos h]
theorem rowSlot_len {r : List Int} (h : r.length ≠ 11) : rowSlotM r = (ent0, false) := by
 unfold rowSlotM
 rw [if_neg (by rw [twice_no (fun h9 => h (by have := h9.1; omega))]; decide)]
theorem rowHead_len {r : List Int} (h : r.length ≠ 13) : rowHeadM r = (headZ, false) := by
 unfold rowHeadM
 rw [if_neg (by rw [twice_no (fun h9 => h (by have := h9.1; omega))]; decide)]
theorem rowSlot_is {r : List Int} {e : EntM} (h : rowSlotM r = (e, true)) : r = slotRowM e ∧ entB e = true := by
 unfold rowSlotM at h
 split at h
 next ht =>
  obtain ⟨t1, t2, t3⟩ := (twice_iff _ _).1 ht
  unfold rowEntM at h
  split at h
  next =>
   split at h
   next hb =>
    have he : ofEnt (r.take 9) = e := congrArg Prod.fst h
    subst he
    refine ⟨?_, hb⟩
    rw [slotRow_yes hb]
    match r, t1 with
    | [a0, a1, a2, a3, a4, a5, a6, a7, a8, a9, a10], _ =>
     have e1 : a9 = a0 := t2
     have e2 : a10 = a0 := t3
     subst e1 e2
     rfl
   next => cases congrArg Prod.snd h
  next => cases congrArg Prod.snd h
 next => cases congrArg Prod.snd h
theorem findM_bd {l : List MarkM} (h : seenB l = true) (c : Int) : (0 ≤ (findM l c).ms ∧ (findM l c).ms ≤ 2000) ∧ (0 ≤ (findM l c).mi ∧ (findM l c).mi ≤ 2000) := by
 unfold findM
 cases hf : l.find? fun x => x.mc == c with
 | none => exact ⟨by decide, by decide⟩
 | some m =>
  have := (markB_iff m).1 ((seen_pairs h).1 m (List.mem_of_find?_eq_some hf))
  show (0 ≤ m.ms ∧ m.ms ≤ 2000) ∧ (0 ≤ m.mi ∧ m.mi ≤ 2000)
  omega
theorem markOf_find {l : List MarkM} (h : seenB l = true) (c : Int) : markOf l c = findM l c := by unfold markOf; rw [if_pos h]
theorem markNs_bd {l : List MarkM} (h : seenB l = true) : ∀ k, ∀ x ∈ markNs l k, 0 ≤ x ∧ x ≤ 2000
 | 0, x, hx => by cases hx
 | k + 1, x, hx => by
  rcases List.mem_append.1 (show x ∈ markNs l k ++ _ from hx) with hx | hx
  · exact markNs_bd h k x hx
  · have := findM_bd h (2 + (k : Int))
    rw [markOf_find h] at hx
    simp only [List.mem_cons, List.not_mem_nil, or_false] at hx
    rcases hx with rfl | rfl <;> omega
theorem headRow_yes {h : HeadM} (ho : headOkB h = true) : headRowM h = ([h.num, h.base, h.tm] ++ markNs h.seen 4) ++ [h.num, h.num] := by unfold headRowM; rw [if_pos ho]
theorem headRow_ok {h : HeadM} (ho : headOkB h = true) : rowOk (headRowM h) = true ∧ (headRowM h).length = 13 := by
 obtain ⟨h1, h2, h3, _, h5, _⟩ := (headOkB_iff h).1 ho
 rw [headRow_yes ho]
 refine ⟨rowOk_mk (by simp [markNs_len]) fun x hx => ?_, by simp [markNs_len]⟩
 simp only [List.mem_append, List.mem_cons, List.not_mem_nil, or_false] at hx
 rcases hx with ((rfl | rfl | rfl) | hx) | (rfl | rfl)
 · omega
 · omega
 · omega
 · have := markNs_bd h5 4 x hx; omega
 · omega
 · omega
theorem markNs_at (l : List MarkM) : ∀ k j, j < k → (markNs l k).getD (2 * j) 0 = (markOf l (2 + (j : Int))).ms ∧ (markNs l k).getD (2 * j + 1) 0 = (markOf l (2 + (j : Int))).mi
 | 0, j, h => absurd h (by omega)
 | k + 1, j, h => by
  have hl := markNs_len l k
  show ((markNs l k ++ _).getD (2 * j) 0 = _) ∧ ((markNs l k ++ _).getD (2 * j + 1) 0 = _)
  by_cases hj : j < k
  · have ih := markNs_at l k j hj
    rw [List.getD_eq_getElem?_getD, List.getD_eq_getElem?_getD, List.getElem?_append_left (by omega), List.getElem?_append_left (by omega), ← List.getD_eq_getElem?_getD, ← List.getD_eq_getElem?_getD]
    exact ih
  · obtain rfl : j = k := by omega
    rw [List.getD_eq_getElem?_getD, List.getD_eq_getElem?_getD, List.getElem?_append_right (by omega), List.getElem?_append_right (by omega), hl, Nat.sub_self, show 2 * j + 1 - 2 * j = 1 by omega]
    exact ⟨rfl, rfl⟩
theorem headRow_mark {h : HeadM} (ho : headOkB h = true) {k : Nat} (hk : k < 4) : markIn (headRowM h) k = ⟨2 + (k : Int), (findM h.seen (2 + (k : Int))).ms, (findM h.seen (2 + (k : Int))).mi⟩ := by
 have h5 := ((headOkB_iff h).1 ho).2.2.2.2.1
 have h6 := markNs_at h.seen 4 k hk
 have hl := markNs_len h.seen 4
 rw [headRow_yes ho]
 unfold markIn
 have e : ∀ q, q < 8 → (([h.num, h.base, h.tm] ++ markNs h.seen 4) ++ [h.num, h.num]).getD (q + 3) 0 = (markNs h.seen 4).getD q 0 := fun q hq => by
  rw [List.getD_eq_getElem?_getD, List.getD_eq_getElem?_getD, List.append_assoc, List.getElem?_append_right (by simp), List.getElem?_append_left (by simp; omega)]
  simp
 rw [e (2 * k) (by omega), show 2 * k + 4 = (2 * k + 1) + 3 by omega, e (2 * k + 1) (by omega), h6.1, h6.2, markOf_find h5]
theorem marks_front {l : List MarkM} (h : seenB l = true) (k : Nat) : (l.filter fun m => decide (m.mc < 2 + ((k + 1 : Nat) : Int))) = (l.filter fun m => decide (m.mc < 2 + (k : Int))) ++ (l.filter fun m => decide (m.mc = 2 + (k : Int))) := by
 have hp := (seen_pairs h).2.1
 clear h
 induction l with
 | nil => rfl
 | cons a t ih =>
  obtain ⟨h1, h2⟩ := List.pairwise_cons.1 hp
  have h3 := ih h2
  have P : ∀ (p : MarkM → Bool), p a = true → (a :: t).filter p = a :: t.filter p := fun p hp => List.filter_cons_of_pos hp
  have N : ∀ (p : MarkM → Bool), ¬ p a = true → (a :: t).filter p = t.filter p := fun p hp => List.filter_cons_of_neg hp
  by_cases e1 : a.mc < 2 + (k : Int)
  · rw [P (fun m => decide (m.mc < 2 + ((k + 1 : Nat) : Int))) (by simp; omega), P (fun m => decide (m.mc < 2 + (k : Int))) (by simpa using e1), N (fun m => decide (m.mc = 2 + (k : Int))) (by simp; omega), h3]
    rfl
  · by_cases e2 : a.mc = 2 + (k : Int)
    · have h4 : (t.filter fun m => decide (m.mc < 2 + (k : Int))) = [] := List.filter_eq_nil_iff.2 fun m hm => by have := h1 m hm; simp; omega
      rw [P (fun m => decide (m.mc < 2 + ((k + 1 : Nat) : Int))) (by simp; omega), N (fun m => decide (m.mc < 2 + (k : Int))) (by simpa using e1), P (fun m => decide (m.mc = 2 + (k : Int))) (by simpa using e2), h3, h4]
      rfl
    · rw [N (fun m => decide (m.mc < 2 + ((k + 1 : Nat) : Int))) (by simp; omega), N (fun m => decide (m.mc < 2 + (k : Int))) (by simpa using e1), N (fun m => decide (m.mc = 2 + (k : Int))) (by simpa using e2), h3]
theorem filter_solo {l : List MarkM} (h : seenB l = true) (c : Int) : (l.filter fun m => decide (m.mc = c)) = if (findM l c).ms ≠ 0 ∨ (findM l c).mi ≠ 0 then [⟨c, (findM l c).ms, (findM l c).mi⟩] else [] := by
 have hp := (seen_pairs h).2.1
 have hb := (seen_pairs h).1
 clear h
 unfold findM
 induction l with
 | nil => rfl
 | cons a t ih =>
  obtain ⟨h1, h2⟩ := List.pairwise_cons.1 hp
  by_cases e : a.mc = c
  · have h4 : (t.filter fun m => decide (m.mc = c)) = [] := List.filter_eq_nil_iff.2 fun m hm => by have := h1 m hm; simp; omega
    have h5 := (markB_iff a).1 (hb a (by simp))
    rw [List.filter_cons, if_pos (by simpa using e), h4, List.find?_cons, show (a.mc == c) = true by simpa using e]
    show [a] = if a.ms ≠ 0 ∨ a.mi ≠ 0 then [⟨c, a.ms, a.mi⟩] else []
    rw [if_pos (Or.inl (by omega)), ← e]
  · rw [List.filter_cons, if_neg (by simpa using e), List.find?_cons, show (a.mc == c) = false by simpa using e]
    exact ih h2 fun m hm => hb m (List.mem_cons_of_mem _ hm)
theorem head_marks {h : HeadM} (ho : headOkB h = true) : ofMarks (headRowM h) 4 = h.seen := by
 have h5 := ((headOkB_iff h).1 ho).2.2.2.2.1
 have h6 : ∀ k, k ≤ 4 → ofMarks (headRowM h) k = h.seen.filter fun m => decide (m.mc < 2 + (k : Int)) := by
  intro k
  induction k with
  | zero =>
   intro _
   symm
   refine List.filter_eq_nil_iff.2 fun m hm => ?_
   have := (markB_iff m).1 ((seen_pairs h5).1 m hm)
   simp
   omega
  | succ k ih =>
   intro hk
   rw [marks_front h5, ← ih (by omega), filter_solo h5]
   show ofMarks (headRowM h) k ++ _ = _
   rw [headRow_mark ho (show k < 4 by omega)]
 rw [h6 4 (Nat.le_refl _)]
 refine List.filter_eq_self.2 fun m hm => ?_
 have := (markB_iff m).1 ((seen_pairs h5).1 m hm)
 simp
 omega
theorem head_back {h : HeadM} (ho : headOkB h = true) : rowHeadM (headRowM h) = (h, true) := by
 have hl := markNs_len h.seen 4
 have e0 : (headRowM h).getD 0 0 = h.num := by rw [headRow_yes ho]; rfl
 have e11 : (headRowM h).getD 11 0 = h.num := by
  rw [headRow_yes ho, List.getD_eq_getElem?_getD, List.getElem?_append_right (by simp [hl])]
  simp [hl]
 have e12 : (headRowM h).getD 12 0 = h.num := by
  rw [headRow_yes ho, List.getD_eq_getElem?_getD, List.getElem?_append_right (by simp [hl])]
  simp [hl]
 have e : ofHead (headRowM h) = h := by
  unfold ofHead
  rw [head_marks ho, e0, show (headRowM h).getD 1 0 = h.base by rw [headRow_yes ho]; rfl, show (headRowM h).getD 2 0 = h.tm by rw [headRow_yes ho]; rfl]
 unfold rowHeadM
 rw [if_pos ((twice_iff _ _).2 ⟨(headRow_ok ho).2, by rw [e0, e11], by rw [e0, e12]⟩), e, if_pos ho]
theorem getD_setL {k : List (List Int)} {i I : Nat} {x : List Int} (hI : I < k.length) : (k.set i x).getD I [] = if i = I then x else k.getD I [] := by
 by_cases e : i = I
 · subst e
   rw [if_pos rfl]
   simp [List.getD, hI]
 · rw [if_neg e]
   simp [List.getD, List.getElem?_set_ne e]
end Go.Proofs.Ytmjifhjhialcbaa

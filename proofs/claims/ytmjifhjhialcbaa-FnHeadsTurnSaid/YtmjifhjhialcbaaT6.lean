/- Parts of my texts: KT HeadM Book BookM BookN. -/
import Derived.Test.YtmjifhjhialcbaaT3
import Derived.Test.YtmjifhjhialcbaaT4
import Derived.Test.YtmjifhjhialcbaaT5
namespace Go.Proofs.Ytmjifhjhialcbaa
set_option maxRecDepth 100000
set_option linter.unusedVariables false
open Go.RowKit
structure TwoM where
 a : DiskM
 b : DiskM
def TwoM.cells (t : TwoM) : List Dat := t.a.cells ++ t.b.cells
def TwoM.sz (t : TwoM) : Nat := t.a.sz + t.b.sz
def MadeT (w : World) (t : TwoM) (e : Ending) (w' : World) : Prop :=
 ∃ A0 n0 c0 A1 n1 c1 A2 n2 c2 A3 n3 c3, e = .returned (.agg #[.slice A0 n0 c0, .slice A1 n1 c1, .slice A2 n2 c2, .slice A3 n3 c3]) ∧ Has w' w.heap.size t.cells [.slice A0 n0 c0, .slice A1 n1 c1, .slice A2 n2 c2, .slice A3 n3 c3] ∧ Below w.heap.size w w'
section
variable {w : World} {B : Nat} {t : TwoM} {v0 v1 v2 v3 : Value}
theorem Rd.halves (h : Rd w B t.cells [v0, v1, v2, v3]) : Rd w B t.a.cells [v0, v1] ∧ Rd w B t.b.cells [v2, v3] := Rd.cut (vs := [v0, v1]) (vs' := [v2, v3]) h rfl
end
end Go.Proofs.Ytmjifhjhialcbaa
namespace Go.Proofs.Ytmjifhjhialcbaa
set_option maxRecDepth 100000
open Go.RowKit
def zeroT : TwoM := ⟨zeroD, zeroD⟩
def twoOk (t : TwoM) : Bool := diskOk t.a && (diskOk t.b && decide (t.a.kept.length = t.b.kept.length))
def newTwo (n : Int) : TwoM := ⟨newDisk n, newDisk n⟩
def bothWrote (t : TwoM) (i : Int) (r : List Int) : TwoM × Bool :=
 if twoOk t = true then (if (withSum r).length ≠ 0 ∧ (wrote t.a i (withSum r)).2 = true ∧ (wrote t.b i (withSum r)).2 = true then (⟨(wrote t.a i (withSum r)).1, (wrote t.b i (withSum r)).1⟩, true) else (t, false)) else (zeroT, false)
def bothSynced (t : TwoM) : TwoM := if twoOk t = true then ⟨synced t.a, synced t.b⟩ else zeroT
def second (xs : List Int) (k : Nat) : List Int := (List.range ((xs.length + 1 - k) / 2)).map fun j => xs.getD (k + 2 * j) 0
def bothFallen (t : TwoM) (fs : List Int) : TwoM := if twoOk t = true then ⟨fallen t.a (second fs 0), fallen t.b (second fs 1)⟩ else zeroT
def rightOf (d : DiskM) (i : Int) : List Int × Bool := unsummed (readAt d i).1
def rightAt (t : TwoM) (i : Int) : List (List Int) :=
 if twoOk t = true ∧ hasS t.a i = true then
  (if (rightOf t.a i).2 = true then [(rightOf t.a i).1] else []) ++ (if (rightOf t.b i).2 = true ∧ ¬ ((rightOf t.a i).2 = true ∧ (rightOf t.a i).1 = (rightOf t.b i).1) then [(rightOf t.b i).1] else [])
 else []
def mendedAt (t : TwoM) (i : Int) (r : List Int) : TwoM := if (bothWrote t i r).2 = true then bothSynced (bothWrote t i r).1 else (bothWrote t i r).1
theorem twoOk_iff {t : TwoM} : twoOk t = true ↔ diskOk t.a = true ∧ diskOk t.b = true ∧ t.a.kept.length = t.b.kept.length := by
 unfold twoOk
 simp only [Bool.and_eq_true, decide_eq_true_eq]
theorem ok_sz9 {d : DiskM} (h : diskOk d = true) : d.sz ≤ 4900 := by
 have h1 := rows_sz_le (ok_kept_len h) (diskOk_iff.1 h).1.2
 have h2 := wait_sz_le (fun p hp => (ok_wait h p hp).2) (diskOk_iff.1 h).2.1
 unfold DiskM.sz
 omega
theorem two_sz {t : TwoM} (ha : diskOk t.a = true) (hb : diskOk t.b = true) : t.sz ≤ 9800 := by
 have h1 := ok_sz9 ha
 have h2 := ok_sz9 hb
 unfold TwoM.sz
 omega
theorem twoOk_no {t : TwoM} (h : ¬ (diskOk t.a = true ∧ diskOk t.b = true ∧ t.a.kept.length = t.b.kept.length)) : twoOk t = false := by
 cases hd : twoOk t
 · rfl
 · exact absurd (twoOk_iff.1 hd) h
/-! ### Valid pairs stay valid -/
theorem wrote_len {d : DiskM} (h : diskOk d = true) (i : Int) (r : List Int) : (wrote d i r).1.kept.length = d.kept.length := by
 unfold wrote
 rw [if_pos h]
 split <;> rfl
theorem synced_lenT {d : DiskM} (h : diskOk d = true) : (synced d).kept.length = d.kept.length := by simp [synced, h, fall, fellTo_len]
theorem fallen_lenT {d : DiskM} (h : diskOk d = true) (fs : List Int) : (fallen d fs).kept.length = d.kept.length := by simp [fallen, h, fall, fellTo_len]
theorem bothWrote_ok {t : TwoM} (h : twoOk t = true) (i : Int) (r : List Int) : twoOk (bothWrote t i r).1 = true := by
 obtain ⟨h1, h2, h3⟩ := twoOk_iff.1 h
 unfold bothWrote
 rw [if_pos h]
 split
 · exact twoOk_iff.2 ⟨wrote_ok h1 _ _, wrote_ok h2 _ _, by rw [wrote_len h1, wrote_len h2, h3]⟩
 · exact h
theorem bothSynced_ok {t : TwoM} (h : twoOk t = true) : twoOk (bothSynced t) = true := by
 obtain ⟨h1, h2, h3⟩ := twoOk_iff.1 h
 unfold bothSynced
 rw [if_pos h]
 exact twoOk_iff.2 ⟨synced_ok h1, synced_ok h2, by rw [synced_lenT h1, synced_lenT h2, h3]⟩
theorem bothFallen_ok {t : TwoM} (h : twoOk t = true) (fs : List Int) : twoOk (bothFallen t fs) = true := by
 obtain ⟨h1, h2, h3⟩ := twoOk_iff.1 h
 unfold bothFallen
 rw [if_pos h]
 exact twoOk_iff.2 ⟨fallen_ok h1 _, fallen_ok h2 _, by rw [fallen_lenT h1, fallen_lenT h2, h3]⟩
/-! ### Sizes -/
theorem ok_two_sz {t : TwoM} (h : twoOk t = true) : t.sz ≤ 9800 := two_sz (twoOk_iff.1 h).1 (twoOk_iff.1 h).2.1
theorem unsummed_len (xs : List Int) : (unsummed xs).1.length ≤ 48 := by
 unfold unsummed
 split
 · rename_i h
   have := rowOk_lenS h.1
   simp only [List.length_take]
   omega
 · simp
/-! ### Every second number -/
theorem second_len (xs : List Int) (k : Nat) : (second xs k).length = (xs.length + 1 - k) / 2 := by simp [second]
theorem second_get (xs : List Int) (k j : Nat) (h : k + 2 * j < xs.length) : (second xs k).getD j 0 = xs.getD (k + 2 * j) 0 := by
 have : j < (xs.length + 1 - k) / 2 := by omega
 simp [second, List.getD_eq_getElem?_getD, List.getElem?_map, List.getElem?_range this]
theorem second_take (xs : List Int) (k j : Nat) (h : k + 2 * j < xs.length) : (second xs k).take (j + 1) = (second xs k).take j ++ [xs.getD (k + 2 * j) 0] := by
 have hj : j < (second xs k).length := by rw [second_len]; omega
 rw [List.take_succ_eq_append_getElem hj, ← second_get xs k j h, List.getD_eq_getElem?_getD, List.getElem?_eq_getElem hj]
 rfl
theorem second_all (xs : List Int) (k j : Nat) (h : xs.length ≤ k + 2 * j) : (second xs k).take j = second xs k := List.take_of_length_le (by rw [second_len]; omega)
end Go.Proofs.Ytmjifhjhialcbaa
namespace Go.Proofs.Ytmjifhjhialcbaa
set_option maxRecDepth 100000
open Go.RowKit
set_option maxHeartbeats 3200000 in
theorem iFates_any (E : Option Addr) (o co : Nat) (fs : List Int) (k : Nat) (w : World) (h : IRow w w.heap.size E o fs) (ho : o ≤ 1048577) (hk : k ≤ 1) :
    Calls Try.prog 58 #[.slice E o co, .int .i64 (k : Int)] w (MadeRow w (second fs k)) := by
 have hl := jd h.1
 have O0 := jd (own_nil w w.heap.size)
 have B0 := jd (Below.refl w.heap.size w)
 go_enter Try.func58, Try.ntmps58
 go_wp2
 go_loopw [5, 6] (fun r i wr => ∃ (j m c : Nat) (A : Option Addr), m = k + 2 * j ∧ m ≤ o + 1 ∧ i = .int .i64 (m : Int) ∧ r = .slice A j c ∧ Own wr w.heap.size A j c ((second fs k).take j) ∧ Below w.heap.size w wr) (fun _ i _ => (o + 2 - (intOf i).toNat))
 case atStart => exact ⟨0, k, 0, none, by omega, by omega, rfl, rfl, O0.out, B0.out⟩
 case round =>
  obtain ⟨j, m, c, A, hm, hmo, rfl, rfl, hown, hbel⟩ := hrel
  have hjo : j ≤ 1048578 := by omega
  have HM := jd hm
  have z := hbel.size
  clear O0 B0 hm
  by_cases hlt : m < o
  case neg =>
   have i1 : ¬ ((m : Int) < (o : Int)) := by omega
   have HE := jd (show (second fs k).take j = second fs k by
    rw [second_all fs k j (by have := hl.out; have := HM.out; omega)])
   clear h
   go_wp2
   go_ret
   refine ⟨A, j, c, rfl, ?_, hbel⟩
   rw [← HE.out]
   exact hown
  have i1 : (m : Int) < (o : Int) := by omega
  have i0 : (0 : Int) ≤ (m : Int) := by omega
  obtain ⟨b, off, rfl, hb, hc⟩ := h.2 (by omega)
  have ce := (hbel.cell (p := ⟨b, off + m, none⟩) hb).trans (hc m hlt)
  have HX := jd (show (second fs k).take (j + 1) = (second fs k).take j ++ [fs.getD m 0] by
   have := HM.out
   subst this
   exact second_take fs k j (by have := hl.out; omega))
  generalize fs.getD m 0 = y at *
  have o2 := hown.below ((Below.refl _ wr).alloc (Nat.le_refl _) (.cells #[.int .i64 y] 2))
  have r2 := (own_one wr y).irow
  have zb : w.heap.size ≤ (wr.alloc (.cells #[.int .i64 y] 2)).heap.size := by simp; omega
  have HB := jd (hbel.alloc hbel.size (.cells #[.int .i64 y] 2))
  clear hc h hown hbel
  go_wp2_with (first
   | (at_builtin
      refine wpList_append_ints rfl (.tmp 14) (.tmp 19) rfl rfl o2 rfl r2 zb (by omega) ?_
      intro A3 c3 w3 o3 g3 e3))
  have R := jd (HB.out.grown g3 HB.out.size (fun p hp => (o2.ge p hp).1))
  go_roundw
  case rel => exact ⟨j + 1, m + 2, c3, A3, by have := HM.out; omega, by omega, by go_num, rfl, by rw [HX.out]; exact o3, R.out⟩
  case measure => simp [intOf]; omega
end Go.Proofs.Ytmjifhjhialcbaa
namespace Go.Proofs.Ytmjifhjhialcbaa
set_option maxRecDepth 100000
open Go.RowKit
end Go.Proofs.Ytmjifhjhialcbaa
namespace Go.Proofs.Ytmjifhjhialcbaa
set_option maxRecDepth 100000
set_option linter.unusedVariables false
open Go.RowKit
def headZ : HeadM := ⟨0, 0, 0, []⟩
def headOkB (t : HeadM) : Bool := inB t.base 0 2000 && (inB t.num 0 t.base && (inB t.tm 0 1000000 && ((decide (0 < t.base) || decide (t.tm = 0)) && (seenB t.seen && decide (lastS t.seen = t.base)))))
theorem headOkB_iff (t : HeadM) : headOkB t = true ↔ (0 ≤ t.base ∧ t.base ≤ 2000) ∧ (0 ≤ t.num ∧ t.num ≤ t.base) ∧ (0 ≤ t.tm ∧ t.tm ≤ 1000000) ∧ (0 < t.base ∨ t.tm = 0) ∧ seenB t.seen = true ∧ lastS t.seen = t.base := by
 unfold headOkB
 simp only [Bool.and_eq_true, Bool.or_eq_true, inB_iff, decide_eq_true_eq]
def markNs (l : List MarkM) : Nat → List Int
 | 0 => []
 | k + 1 => markNs l k ++ [(markOf l (2 + (k : Int))).ms, (markOf l (2 + (k : Int))).mi]
theorem markNs_len (l : List MarkM) (k : Nat) : (markNs l k).length = 2 * k := by
 induction k with
 | zero => rfl
 | succ k ih => simp only [markNs, List.length_append, ih, List.length_cons, List.length_nil]; omega
def headRowM (t : HeadM) : List Int := if headOkB t = true then ([t.num, t.base, t.tm] ++ markNs t.seen 4) ++ [t.num, t.num] else []
theorem headRowM_len (t : HeadM) : (headRowM t).length ≤ 13 := by
 unfold headRowM
 split
 · simp [markNs_len]
 · simp
def markIn (r : List Int) (k : Nat) : MarkM := ⟨2 + (k : Int), r.getD (2 * k + 3) 0, r.getD (2 * k + 4) 0⟩
def ofMarks (r : List Int) : Nat → List MarkM
 | 0 => []
 | k + 1 => ofMarks r k ++ (if (markIn r k).ms ≠ 0 ∨ (markIn r k).mi ≠ 0 then [markIn r k] else [])
theorem ofMarks_len (r : List Int) (k : Nat) : (ofMarks r k).length ≤ k := by
 induction k with
 | zero => simp [ofMarks]
 | succ k ih =>
  simp only [ofMarks, List.length_append]
  split <;> simp <;> omega
theorem ofMarks_yes {r : List Int} {k : Nat} (h : (markIn r k).ms ≠ 0 ∨ (markIn r k).mi ≠ 0) : ofMarks r (k + 1) = ofMarks r k ++ [markIn r k] := by
 simp only [ofMarks]
 rw [if_pos h]
theorem ofMarks_no {r : List Int} {k : Nat} (h : (markIn r k).ms = 0 ∧ (markIn r k).mi = 0) : ofMarks r (k + 1) = ofMarks r k := by
 simp only [ofMarks]
 rw [if_neg (by rw [h.1, h.2]; decide), List.append_nil]
def ofHead (r : List Int) : HeadM := ⟨r.getD 0 0, r.getD 1 0, r.getD 2 0, ofMarks r 4⟩
def twice (r : List Int) (n : Nat) : Bool := decide (r.length = n + 2) && (decide (r.getD n 0 = r.getD 0 0) && decide (r.getD (n + 1) 0 = r.getD 0 0))
theorem twice_iff (r : List Int) (n : Nat) : twice r n = true ↔ r.length = n + 2 ∧ r.getD n 0 = r.getD 0 0 ∧ r.getD (n + 1) 0 = r.getD 0 0 := by
 unfold twice
 simp only [Bool.and_eq_true, decide_eq_true_eq]
theorem twice_no {r : List Int} {n : Nat} (h : ¬ (r.length = n + 2 ∧ r.getD n 0 = r.getD 0 0 ∧ r.getD (n + 1) 0 = r.getD 0 0)) : twice r n = false := by
 rw [Bool.eq_false_iff]
 intro h2
 exact h ((twice_iff r n).1 h2)
def rowHeadM (r : List Int) : HeadM × Bool := if twice r 11 = true then (if headOkB (ofHead r) = true then (ofHead r, true) else (headZ, false)) else (headZ, false)
def rowSlotM (r : List Int) : EntM × Bool := if twice r 9 = true then rowEntM (r.take 9) else (ent0, false)
def keptB (t : TwoM) : Bool := twoOk t && decide (t.a.kept.length = 22)
theorem keptB_iff (t : TwoM) : keptB t = true ↔ twoOk t = true ∧ t.a.kept.length = 22 := by
 unfold keptB
 simp only [Bool.and_eq_true, decide_eq_true_eq]
def newKeptM : TwoM := mendedAt (newTwo 22) 0 (headRowM headZ)
def keptHeadM (t : TwoM) (h : HeadM) : TwoM × Bool := if keptB t = true then (if headOkB h = true then bothWrote t (h.num % 2) (headRowM h) else (t, false)) else (zeroT, false)
def better (q : Int) (s : HeadM × Bool) (r : List Int) : HeadM × Bool := if (rowHeadM r).2 = true ∧ ((rowHeadM r).1.num % 2 = q ∧ (s.2 = false ∨ s.1.num < (rowHeadM r).1.num)) then ((rowHeadM r).1, true) else s
def bestTo (q : Int) (s : HeadM × Bool) (l : List (List Int)) (j : Nat) : HeadM × Bool := (l.take j).foldl (better q) s
theorem bestTo_step (q : Int) (s : HeadM × Bool) {l : List (List Int)} {j : Nat} (hj : j < l.length) : bestTo q s l (j + 1) = better q (bestTo q s l j) l[j] := by
 unfold bestTo
 rw [List.take_succ_eq_append_getElem hj, List.foldl_append]
 rfl
def headTo (t : TwoM) : Nat → HeadM × Bool
 | 0 => (headZ, false)
 | k + 1 => bestTo (k : Int) (headTo t k) (rightAt t (k : Int)) (rightAt t (k : Int)).length
def headInM (t : TwoM) : HeadM × Bool := if keptB t = true then headTo t 2 else (headZ, false)
structure BookM where
 base : Int
 tm : Int
 ents : List EntM
def headB (b : BookM) : Bool := decide (b.ents.length = 0) || (decide ((b.ents.getD 0 ent0).idx = b.base + 1) && decide (b.tm ≤ (b.ents.getD 0 ent0).tm))
def bookB (b : BookM) : Bool := inB b.base 0 2000 && (inB b.tm 0 1000000 && ((decide (b.base ≠ 0) || decide (b.tm = 0)) && (decide (b.ents.length ≤ 20) && (entsB b.ents && headB b))))
def lastB (b : BookM) : Int := b.base + (b.ents.length : Int)
def lastM (b : BookM) : Int := if bookB b = true then lastB b else 0
def timeAt (b : BookM) (i : Int) : Int := if i = b.base then b.tm else (b.ents.getD (i - b.base - 1).toNat ent0).tm
def nextB (b : BookM) (e : EntM) : Bool := entB e && (decide (e.idx = lastB b + 1) && (decide (timeAt b (lastB b) ≤ e.tm) && decide (b.ents.length ≠ 20)))
theorem bookB_iff (b : BookM) : bookB b = true ↔ (0 ≤ b.base ∧ b.base ≤ 2000) ∧ (0 ≤ b.tm ∧ b.tm ≤ 1000000) ∧ (b.base ≠ 0 ∨ b.tm = 0) ∧ b.ents.length ≤ 20 ∧ entsB b.ents = true ∧ headB b = true := by
 unfold bookB
 simp only [Bool.and_eq_true, Bool.or_eq_true, inB_iff, decide_eq_true_eq]
theorem timeAt_base (b : BookM) : timeAt b b.base = b.tm := if_pos rfl
theorem timeAt_in {b : BookM} {j : Nat} (hj : j < b.ents.length) : timeAt b (b.base + 1 + (j : Int)) = b.ents[j].tm := by
 unfold timeAt
 rw [if_neg (by omega), show (b.base + 1 + (j : Int) - b.base - 1).toNat = j by omega, egetD hj]
theorem timeAt_last {b : BookM} (h0 : 0 < b.ents.length) : timeAt b (lastB b) = (b.ents.getD (b.ents.length - 1) ent0).tm := by
 have h1 : b.ents.length - 1 < b.ents.length := by omega
 rw [egetD h1, ← timeAt_in h1]
 congr 1
 unfold lastB
 omega
theorem timeAt_none {b : BookM} (h0 : b.ents.length = 0) : timeAt b (lastB b) = b.tm := by
 rw [show lastB b = b.base by unfold lastB; omega, timeAt_base]
theorem nextB_iff (b : BookM) (e : EntM) : nextB b e = true ↔ entB e = true ∧ e.idx = lastB b + 1 ∧ timeAt b (lastB b) ≤ e.tm ∧ b.ents.length ≠ 20 := by
 unfold nextB
 simp only [Bool.and_eq_true, decide_eq_true_eq]
end Go.Proofs.Ytmjifhjhialcbaa

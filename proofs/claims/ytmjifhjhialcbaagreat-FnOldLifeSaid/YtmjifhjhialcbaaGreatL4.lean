/- Parts of my texts: KT HeadM Book BookM BookN RecM. -/
import Derived.Test.YtmjifhjhialcbaaGreatL2
import Derived.Test.YtmjifhjhialcbaaGreatL3
namespace Go.Proofs.YtmjifhjhialcbaaGreat
set_option maxRecDepth 100000
set_option linter.unusedVariables false
open Go.RowKit
structure TwoM where
 a : DiskM
 b : DiskM
def TwoM.cells (t : TwoM) : List Dat := t.a.cells ++ t.b.cells
def TwoM.sz (t : TwoM) : Nat := t.a.sz + t.b.sz
def MadeT (w : World) (t : TwoM) (e : Ending) (w' : World) : Prop :=
 ∃ A0 n0 c0 A1 n1 c1 A2 n2 c2 A3 n3 c3, e = .returned (.agg #[.slice A0 n0 c0, .slice A1 n1 c1, .slice A2 n2 c2, .slice A3 n3 c3]) ∧ Has w' w.heap.size t.cells [.slice A0 n0 c0, .slice A1 n1 c1, .slice A2 n2 c2, .slice A3 n3 c3] ∧ Below w.heap.size w w'
section
variable {w : World} {B : Nat} {t : TwoM} {v0 v1 v2 v3 : Value}
theorem Rd.halves (h : Rd w B t.cells [v0, v1, v2, v3]) : Rd w B t.a.cells [v0, v1] ∧ Rd w B t.b.cells [v2, v3] := Rd.cut (vs := [v0, v1]) (vs' := [v2, v3]) h rfl
theorem Rd.pairT (h : Rd w B t.a.cells [v0, v1]) (h' : Rd w B t.b.cells [v2, v3]) : Rd w B t.cells [v0, v1, v2, v3] := h.append h'
end
end Go.Proofs.YtmjifhjhialcbaaGreat
namespace Go.Proofs.YtmjifhjhialcbaaGreat
set_option maxRecDepth 100000
open Go.RowKit
def zeroT : TwoM := ⟨zeroD, zeroD⟩
def twoOk (t : TwoM) : Bool := diskOk t.a && (diskOk t.b && decide (t.a.kept.length = t.b.kept.length))
def newTwo (n : Int) : TwoM := ⟨newDisk n, newDisk n⟩
def bothWrote (t : TwoM) (i : Int) (r : List Int) : TwoM × Bool :=
 if twoOk t = true then (if (withSum r).length ≠ 0 ∧ (wrote t.a i (withSum r)).2 = true ∧ (wrote t.b i (withSum r)).2 = true then (⟨(wrote t.a i (withSum r)).1, (wrote t.b i (withSum r)).1⟩, true) else (t, false)) else (zeroT, false)
def bothSynced (t : TwoM) : TwoM := if twoOk t = true then ⟨synced t.a, synced t.b⟩ else zeroT
def second (xs : List Int) (k : Nat) : List Int := (List.range ((xs.length + 1 - k) / 2)).map fun j => xs.getD (k + 2 * j) 0
def bothFallen (t : TwoM) (fs : List Int) : TwoM := if twoOk t = true then ⟨fallen t.a (second fs 0), fallen t.b (second fs 1)⟩ else zeroT
def rightOf (d : DiskM) (i : Int) : List Int × Bool := unsummed (readAt d i).1
def rightAt (t : TwoM) (i : Int) : List (List Int) :=
 if twoOk t = true ∧ hasS t.a i = true then
  (if (rightOf t.a i).2 = true then [(rightOf t.a i).1] else []) ++ (if (rightOf t.b i).2 = true ∧ ¬ ((rightOf t.a i).2 = true ∧ (rightOf t.a i).1 = (rightOf t.b i).1) then [(rightOf t.b i).1] else [])
 else []
def mendedAt (t : TwoM) (i : Int) (r : List Int) : TwoM := if (bothWrote t i r).2 = true then bothSynced (bothWrote t i r).1 else (bothWrote t i r).1
def equalIn (t : TwoM) : Bool := twoOk t && (safeIn t.a && (safeIn t.b && decide (t.a.kept = t.b.kept)))
theorem twoOk_iff {t : TwoM} : twoOk t = true ↔ diskOk t.a = true ∧ diskOk t.b = true ∧ t.a.kept.length = t.b.kept.length := by
 unfold twoOk
 simp only [Bool.and_eq_true, decide_eq_true_eq]
theorem ok_sz9 {d : DiskM} (h : diskOk d = true) : d.sz ≤ 4900 := by
 have h1 := rows_sz_le (ok_kept_len h) (diskOk_iff.1 h).1.2
 have h2 := wait_sz_le (fun p hp => (ok_wait h p hp).2) (diskOk_iff.1 h).2.1
 unfold DiskM.sz
 omega
theorem two_sz {t : TwoM} (ha : diskOk t.a = true) (hb : diskOk t.b = true) : t.sz ≤ 9800 := by
 have h1 := ok_sz9 ha
 have h2 := ok_sz9 hb
 unfold TwoM.sz
 omega
theorem twoOk_no {t : TwoM} (h : ¬ (diskOk t.a = true ∧ diskOk t.b = true ∧ t.a.kept.length = t.b.kept.length)) : twoOk t = false := by
 cases hd : twoOk t
 · rfl
 · exact absurd (twoOk_iff.1 hd) h
/-! ### Valid pairs stay valid -/
theorem wrote_len {d : DiskM} (h : diskOk d = true) (i : Int) (r : List Int) : (wrote d i r).1.kept.length = d.kept.length := by
 unfold wrote
 rw [if_pos h]
 split <;> rfl
theorem synced_lenT {d : DiskM} (h : diskOk d = true) : (synced d).kept.length = d.kept.length := by simp [synced, h, fall, fellTo_len]
theorem fallen_lenT {d : DiskM} (h : diskOk d = true) (fs : List Int) : (fallen d fs).kept.length = d.kept.length := by simp [fallen, h, fall, fellTo_len]
theorem bothWrote_ok {t : TwoM} (h : twoOk t = true) (i : Int) (r : List Int) : twoOk (bothWrote t i r).1 = true := by
 obtain ⟨h1, h2, h3⟩ := twoOk_iff.1 h
 unfold bothWrote
 rw [if_pos h]
 split
 · exact twoOk_iff.2 ⟨wrote_ok h1 _ _, wrote_ok h2 _ _, by rw [wrote_len h1, wrote_len h2, h3]⟩
 · exact h
theorem bothSynced_ok {t : TwoM} (h : twoOk t = true) : twoOk (bothSynced t) = true := by
 obtain ⟨h1, h2, h3⟩ := twoOk_iff.1 h
 unfold bothSynced
 rw [if_pos h]
 exact twoOk_iff.2 ⟨synced_ok h1, synced_ok h2, by rw [synced_lenT h1, synced_lenT h2, h3]⟩
theorem bothFallen_ok {t : TwoM} (h : twoOk t = true) (fs : List Int) : twoOk (bothFallen t fs) = true := by
 obtain ⟨h1, h2, h3⟩ := twoOk_iff.1 h
 unfold bothFallen
 rw [if_pos h]
 exact twoOk_iff.2 ⟨fallen_ok h1 _, fallen_ok h2 _, by rw [fallen_lenT h1, fallen_lenT h2, h3]⟩
/-! ### Sizes -/
theorem ok_two_sz {t : TwoM} (h : twoOk t = true) : t.sz ≤ 9800 := two_sz (twoOk_iff.1 h).1 (twoOk_iff.1 h).2.1
theorem unsummed_len (xs : List Int) : (unsummed xs).1.length ≤ 48 := by
 unfold unsummed
 split
 · rename_i h
   have := rowOk_lenS h.1
   simp only [List.length_take]
   omega
 · simp
/-! ### Every second number -/
theorem second_len (xs : List Int) (k : Nat) : (second xs k).length = (xs.length + 1 - k) / 2 := by simp [second]
theorem second_get (xs : List Int) (k j : Nat) (h : k + 2 * j < xs.length) : (second xs k).getD j 0 = xs.getD (k + 2 * j) 0 := by
 have : j < (xs.length + 1 - k) / 2 := by omega
 simp [second, List.getD_eq_getElem?_getD, List.getElem?_map, List.getElem?_range this]
theorem second_take (xs : List Int) (k j : Nat) (h : k + 2 * j < xs.length) : (second xs k).take (j + 1) = (second xs k).take j ++ [xs.getD (k + 2 * j) 0] := by
 have hj : j < (second xs k).length := by rw [second_len]; omega
 rw [List.take_succ_eq_append_getElem hj, ← second_get xs k j h, List.getD_eq_getElem?_getD, List.getElem?_eq_getElem hj]
 rfl
theorem second_all (xs : List Int) (k j : Nat) (h : xs.length ≤ k + 2 * j) : (second xs k).take j = second xs k := List.take_of_length_le (by rw [second_len]; omega)
end Go.Proofs.YtmjifhjhialcbaaGreat
namespace Go.Proofs.YtmjifhjhialcbaaGreat
set_option maxRecDepth 100000
open Go.RowKit
set_option maxHeartbeats 3200000 in
theorem sFates_any (E : Option Addr) (o co : Nat) (fs : List Int) (k : Nat) (w : World) (h : IRow w w.heap.size E o fs) (ho : o ≤ 1048577) (hk : k ≤ 1) :
    Calls Tryz.prog 239 #[.slice E o co, .int .i64 (k : Int)] w (MadeRow w ((second fs k).take 60)) := by
 have hl := jd h.1
 have O0 := jd (own_empty w)
 have B0 := jd ((Below.refl _ w).alloc (Nat.le_refl _) (.cells #[] 2))
 go_enter Tryz.func239, Tryz.ntmps239
 go_wp2
 go_loopw [5, 6] (fun r i wr => ∃ (j m c : Nat) (A : Option Addr), m = k + 2 * j ∧ m ≤ o + 1 ∧ j ≤ 60 ∧ i = .int .i64 (m : Int) ∧ r = .slice A j c ∧ Own wr w.heap.size A j c ((second fs k).take j) ∧ Below w.heap.size w wr) (fun _ i _ => (o + 2 - (intOf i).toNat))
 case atStart => exact ⟨0, k, 0, some ⟨w.heap.size, 0, none⟩, by omega, by omega, by omega, rfl, rfl, O0.out, B0.out⟩
 case round =>
  obtain ⟨j, m, c, A, hm, hmo, hj, rfl, rfl, hown, hbel⟩ := hrel
  have hjo : j ≤ 1048578 := by omega
  have HM := jd hm
  have z := hbel.size
  clear O0 B0 hm
  by_cases hlt : m < o
  case neg =>
   have i1 : ¬ ((m : Int) < (o : Int)) := by omega
   have HE := jd (show (second fs k).take j = (second fs k).take 60 by
    rw [second_all fs k j (by have := hl.out; have := HM.out; omega)]
    exact (List.take_of_length_le (by rw [second_len]; have := hl.out; have := HM.out; omega)).symm)
   clear h
   go_wp2
   go_ret
   refine ⟨A, j, c, rfl, ?_, hbel⟩
   rw [← HE.out]
   exact hown
  by_cases h60 : j < 60
  case neg =>
   have i1 : (m : Int) < (o : Int) := by omega
   have i2 : ¬ ((j : Int) < 60) := by omega
   have HE := jd (show j = 60 by omega)
   clear h
   go_wp2
   go_ret
   refine ⟨A, j, c, rfl, ?_, hbel⟩
   rw [← HE.out]
   exact hown
  have i1 : (m : Int) < (o : Int) := by omega
  have i2 : (j : Int) < 60 := by omega
  have i0 : (0 : Int) ≤ (m : Int) := by omega
  obtain ⟨b, off, rfl, hb, hc⟩ := h.2 (by omega)
  have ce := (hbel.cell (p := ⟨b, off + m, none⟩) hb).trans (hc m hlt)
  have HX := jd (show (second fs k).take (j + 1) = (second fs k).take j ++ [fs.getD m 0] by
   have := HM.out
   subst this
   exact second_take fs k j (by have := hl.out; omega))
  generalize fs.getD m 0 = y at *
  have o2 := hown.below ((Below.refl _ wr).alloc (Nat.le_refl _) (.cells #[.int .i64 y] 2))
  have r2 := (own_one wr y).irow
  have zb : w.heap.size ≤ (wr.alloc (.cells #[.int .i64 y] 2)).heap.size := by simp; omega
  have HB := jd (hbel.alloc hbel.size (.cells #[.int .i64 y] 2))
  clear hc h hown hbel
  go_wp2_with (first
   | (at_builtin
      refine wpList_append_ints rfl (.tmp 20) (.tmp 25) rfl rfl o2 rfl r2 zb (by omega) ?_
      intro A3 c3 w3 o3 g3 e3))
  have R := jd (HB.out.grown g3 HB.out.size (fun p hp => (o2.ge p hp).1))
  go_roundw
  case rel => exact ⟨j + 1, m + 2, c3, A3, by have := HM.out; omega, by omega, by omega, by go_num, rfl, by rw [HX.out]; exact o3, R.out⟩
  case measure => simp [intOf]; omega
set_option maxHeartbeats 3200000 in
theorem iFates_any (E : Option Addr) (o co : Nat) (fs : List Int) (k : Nat) (w : World) (h : IRow w w.heap.size E o fs) (ho : o ≤ 1048577) (hk : k ≤ 1) :
    Calls Tryz.prog 55 #[.slice E o co, .int .i64 (k : Int)] w (MadeRow w (second fs k)) := by
 have hl := jd h.1
 have O0 := jd (own_nil w w.heap.size)
 have B0 := jd (Below.refl w.heap.size w)
 go_enter Tryz.func55, Tryz.ntmps55
 go_wp2
 go_loopw [5, 6] (fun r i wr => ∃ (j m c : Nat) (A : Option Addr), m = k + 2 * j ∧ m ≤ o + 1 ∧ i = .int .i64 (m : Int) ∧ r = .slice A j c ∧ Own wr w.heap.size A j c ((second fs k).take j) ∧ Below w.heap.size w wr) (fun _ i _ => (o + 2 - (intOf i).toNat))
 case atStart => exact ⟨0, k, 0, none, by omega, by omega, rfl, rfl, O0.out, B0.out⟩
 case round =>
  obtain ⟨j, m, c, A, hm, hmo, rfl, rfl, hown, hbel⟩ := hrel
  have hjo : j ≤ 1048578 := by omega
  have HM := jd hm
  have z := hbel.size
  clear O0 B0 hm
  by_cases hlt : m < o
  case neg =>
   have i1 : ¬ ((m : Int) < (o : Int)) := by omega
   have HE := jd (show (second fs k).take j = second fs k by
    rw [second_all fs k j (by have := hl.out; have := HM.out; omega)])
   clear h
   go_wp2
   go_ret
   refine ⟨A, j, c, rfl, ?_, hbel⟩
   rw [← HE.out]
   exact hown
  have i1 : (m : Int) < (o : Int) := by omega
  have i0 : (0 : Int) ≤ (m : Int) := by omega
  obtain ⟨b, off, rfl, hb, hc⟩ := h.2 (by omega)
  have ce := (hbel.cell (p := ⟨b, off + m, none⟩) hb).trans (hc m hlt)
  have HX := jd (show (second fs k).take (j + 1) = (second fs k).take j ++ [fs.getD m 0] by
   have := HM.out
   subst this
   exact second_take fs k j (by have := hl.out; omega))
  generalize fs.getD m 0 = y at *
  have o2 := hown.below ((Below.refl _ wr).alloc (Nat.le_refl _) (.cells #[.int .i64 y] 2))
  have r2 := (own_one wr y).irow
  have zb : w.heap.size ≤ (wr.alloc (.cells #[.int .i64 y] 2)).heap.size := by simp; omega
  have HB := jd (hbel.alloc hbel.size (.cells #[.int .i64 y] 2))
  clear hc h hown hbel
  go_wp2_with (first
   | (at_builtin
      refine wpList_append_ints rfl (.tmp 14) (.tmp 19) rfl rfl o2 rfl r2 zb (by omega) ?_
      intro A3 c3 w3 o3 g3 e3))
  have R := jd (HB.out.grown g3 HB.out.size (fun p hp => (o2.ge p hp).1))
  go_roundw
  case rel => exact ⟨j + 1, m + 2, c3, A3, by have := HM.out; omega, by omega, by go_num, rfl, by rw [HX.out]; exact o3, R.out⟩
  case measure => simp [intOf]; omega
end Go.Proofs.YtmjifhjhialcbaaGreat
namespace Go.Proofs.YtmjifhjhialcbaaGreat
set_option maxRecDepth 100000
open Go.RowKit
end Go.Proofs.YtmjifhjhialcbaaGreat
namespace Go.Proofs.YtmjifhjhialcbaaGreat
set_option maxRecDepth 100000
set_option linter.unusedVariables false
open Go.RowKit
def headZ : HeadM := ⟨0, 0, 0, []⟩
def headOkB (t : HeadM) : Bool := inB t.base 0 2000 && (inB t.num 0 t.base && (inB t.tm 0 1000000 && ((decide (0 < t.base) || decide (t.tm = 0)) && (seenB t.seen && decide (lastS t.seen = t.base)))))
theorem headOkB_iff (t : HeadM) : headOkB t = true ↔ (0 ≤ t.base ∧ t.base ≤ 2000) ∧ (0 ≤ t.num ∧ t.num ≤ t.base) ∧ (0 ≤ t.tm ∧ t.tm ≤ 1000000) ∧ (0 < t.base ∨ t.tm = 0) ∧ seenB t.seen = true ∧ lastS t.seen = t.base := by
 unfold headOkB
 simp only [Bool.and_eq_true, Bool.or_eq_true, inB_iff, decide_eq_true_eq]
def markNs (l : List MarkM) : Nat → List Int
 | 0 => []
 | k + 1 => markNs l k ++ [(markOf l (2 + (k : Int))).ms, (markOf l (2 + (k : Int))).mi]
theorem markNs_len (l : List MarkM) (k : Nat) : (markNs l k).length = 2 * k := by
 induction k with
 | zero => rfl
 | succ k ih => simp only [markNs, List.length_append, ih, List.length_cons, List.length_nil]; omega
def headRowM (t : HeadM) : List Int := if headOkB t = true then ([t.num, t.base, t.tm] ++ markNs t.seen 4) ++ [t.num, t.num] else []
theorem headRowM_len (t : HeadM) : (headRowM t).length ≤ 13 := by
 unfold headRowM
 split
 · simp [markNs_len]
 · simp
def markIn (r : List Int) (k : Nat) : MarkM := ⟨2 + (k : Int), r.getD (2 * k + 3) 0, r.getD (2 * k + 4) 0⟩
def ofMarks (r : List Int) : Nat → List MarkM
 | 0 => []
 | k + 1 => ofMarks r k ++ (if (markIn r k).ms ≠ 0 ∨ (markIn r k).mi ≠ 0 then [markIn r k] else [])
theorem ofMarks_len (r : List Int) (k : Nat) : (ofMarks r k).length ≤ k := by
 induction k with
 | zero => simp [ofMarks]
 | succ k ih =>
  simp only [ofMarks, List.length_append]
  split <;> simp <;> omega
theorem ofMarks_yes {r : List Int} {k : Nat} (h : (markIn r k).ms ≠ 0 ∨ (markIn r k).mi ≠ 0) : ofMarks r (k + 1) = ofMarks r k ++ [markIn r k] := by
 simp only [ofMarks]
 rw [if_pos h]
theorem ofMarks_no {r : List Int} {k : Nat} (h : (markIn r k).ms = 0 ∧ (markIn r k).mi = 0) : ofMarks r (k + 1) = ofMarks r k := by
 simp only [ofMarks]
 rw [if_neg (by rw [h.1, h.2]; decide), List.append_nil]
def ofHead (r : List Int) : HeadM := ⟨r.getD 0 0, r.getD 1 0, r.getD 2 0, ofMarks r 4⟩
def twice (r : List Int) (n : Nat) : Bool := decide (r.length = n + 2) && (decide (r.getD n 0 = r.getD 0 0) && decide (r.getD (n + 1) 0 = r.getD 0 0))
theorem twice_iff (r : List Int) (n : Nat) : twice r n = true ↔ r.length = n + 2 ∧ r.getD n 0 = r.getD 0 0 ∧ r.getD (n + 1) 0 = r.getD 0 0 := by
 unfold twice
 simp only [Bool.and_eq_true, decide_eq_true_eq]
theorem twice_no {r : List Int} {n : Nat} (h : ¬ (r.length = n + 2 ∧ r.getD n 0 = r.getD 0 0 ∧ r.getD (n + 1) 0 = r.getD 0 0)) : twice r n = false := by
 rw [Bool.eq_false_iff]
 intro h2
 exact h ((twice_iff r n).1 h2)
def rowHeadM (r : List Int) : HeadM × Bool := if twice r 11 = true then (if headOkB (ofHead r) = true then (ofHead r, true) else (headZ, false)) else (headZ, false)
def slotRowM (e : EntM) : List Int := if entB e = true then entNs e ++ [e.idx, e.idx] else []
theorem slotRowM_len (e : EntM) : (slotRowM e).length ≤ 11 := by
 unfold slotRowM
 split <;> simp [entNs]
def rowSlotM (r : List Int) : EntM × Bool := if twice r 9 = true then rowEntM (r.take 9) else (ent0, false)
def slotOfM (i : Int) : Int := if inB i 1 2000 = true then 2 + i % 20 else -1
def keptB (t : TwoM) : Bool := twoOk t && decide (t.a.kept.length = 22)
theorem keptB_iff (t : TwoM) : keptB t = true ↔ twoOk t = true ∧ t.a.kept.length = 22 := by
 unfold keptB
 simp only [Bool.and_eq_true, decide_eq_true_eq]
def newKeptM : TwoM := mendedAt (newTwo 22) 0 (headRowM headZ)
def keptEntryM (t : TwoM) (e : EntM) : TwoM × Bool := if keptB t = true then (if entB e = true then bothWrote t (slotOfM e.idx) (slotRowM e) else (t, false)) else (zeroT, false)
def better (q : Int) (s : HeadM × Bool) (r : List Int) : HeadM × Bool := if (rowHeadM r).2 = true ∧ ((rowHeadM r).1.num % 2 = q ∧ (s.2 = false ∨ s.1.num < (rowHeadM r).1.num)) then ((rowHeadM r).1, true) else s
def bestTo (q : Int) (s : HeadM × Bool) (l : List (List Int)) (j : Nat) : HeadM × Bool := (l.take j).foldl (better q) s
theorem bestTo_step (q : Int) (s : HeadM × Bool) {l : List (List Int)} {j : Nat} (hj : j < l.length) : bestTo q s l (j + 1) = better q (bestTo q s l j) l[j] := by
 unfold bestTo
 rw [List.take_succ_eq_append_getElem hj, List.foldl_append]
 rfl
def headTo (t : TwoM) : Nat → HeadM × Bool
 | 0 => (headZ, false)
 | k + 1 => bestTo (k : Int) (headTo t k) (rightAt t (k : Int)) (rightAt t (k : Int)).length
def headInM (t : TwoM) : HeadM × Bool := if keptB t = true then headTo t 2 else (headZ, false)
structure BookM where
 base : Int
 tm : Int
 ents : List EntM
def BookM.cells (t : BookM) : List Dat := [.int t.base] ++ ([.int t.tm] ++ ([entD t.ents]))
def book0 : BookM := ⟨0, 0, []⟩
def headB (b : BookM) : Bool := decide (b.ents.length = 0) || (decide ((b.ents.getD 0 ent0).idx = b.base + 1) && decide (b.tm ≤ (b.ents.getD 0 ent0).tm))
def bookB (b : BookM) : Bool := inB b.base 0 2000 && (inB b.tm 0 1000000 && ((decide (b.base ≠ 0) || decide (b.tm = 0)) && (decide (b.ents.length ≤ 20) && (entsB b.ents && headB b))))
def lastB (b : BookM) : Int := b.base + (b.ents.length : Int)
def lastM (b : BookM) : Int := if bookB b = true then lastB b else 0
def timeAt (b : BookM) (i : Int) : Int := if i = b.base then b.tm else (b.ents.getD (i - b.base - 1).toNat ent0).tm
def nextB (b : BookM) (e : EntM) : Bool := entB e && (decide (e.idx = lastB b + 1) && (decide (timeAt b (lastB b) ≤ e.tm) && decide (b.ents.length ≠ 20)))
def more (b : BookM) (l : List EntM) : BookM := ⟨b.base, b.tm, b.ents ++ l⟩
def appM (b : BookM) (e : EntM) : BookM × Bool := if bookB b = true then (if nextB b e = true then (more b [e], true) else (b, false)) else (book0, false)
def growAt (b : BookM) (l : List EntM) (j : Nat) : Bool := nextB (more b (l.take j)) (l.getD j ent0)
def growB (b : BookM) (l : List EntM) : Bool := (List.range l.length).all (growAt b l)
def growM (b : BookM) (l : List EntM) : BookM × Bool := if bookB b = true then (if l.length ≤ 20 then (if growB b l = true then (more b l, true) else (b, false)) else (b, false)) else (book0, false)
def sameE (x y : EntM) : Bool := entNs x == entNs y
def sameEs (l r : List EntM) : Bool := decide (l.length = r.length) && (List.range l.length).all fun j => sameE (l.getD j ent0) (r.getD j ent0)
theorem bookB_iff (b : BookM) : bookB b = true ↔ (0 ≤ b.base ∧ b.base ≤ 2000) ∧ (0 ≤ b.tm ∧ b.tm ≤ 1000000) ∧ (b.base ≠ 0 ∨ b.tm = 0) ∧ b.ents.length ≤ 20 ∧ entsB b.ents = true ∧ headB b = true := by
 unfold bookB
 simp only [Bool.and_eq_true, Bool.or_eq_true, inB_iff, decide_eq_true_eq]
theorem bookB_len {b : BookM} (h : bookB b = true) : b.ents.length ≤ 20 := ((bookB_iff b).1 h).2.2.2.1
theorem sameE_iff (x y : EntM) : sameE x y = true ↔ x = y := by
 unfold sameE
 rw [beq_iff_eq]
 cases x
 cases y
 simp [entNs]
theorem sameE_refl (x : EntM) : sameE x x = true := (sameE_iff x x).2 rfl
theorem timeAt_base (b : BookM) : timeAt b b.base = b.tm := if_pos rfl
theorem timeAt_in {b : BookM} {j : Nat} (hj : j < b.ents.length) : timeAt b (b.base + 1 + (j : Int)) = b.ents[j].tm := by
 unfold timeAt
 rw [if_neg (by omega), show (b.base + 1 + (j : Int) - b.base - 1).toNat = j by omega, egetD hj]
theorem growB_iff (b : BookM) (l : List EntM) : growB b l = true ↔ ∀ j, j < l.length → growAt b l j = true := by
 unfold growB
 simp only [List.all_eq_true, List.mem_range]
theorem growB_step {b : BookM} {l : List EntM} {j : Nat} (hj : j < l.length) (h : growAt b l j = false) : growB b l = false := by
 rw [Bool.eq_false_iff]
 intro h2
 have := (growB_iff b l).1 h2 j hj
 rw [h] at this
 cases this
theorem more_nil (b : BookM) : more b [] = b := by
 unfold more
 rw [List.append_nil]
theorem more_more (b : BookM) (l r : List EntM) : more (more b l) r = more b (l ++ r) := by
 unfold more
 rw [List.append_assoc]
theorem more_take {b : BookM} {l : List EntM} {j : Nat} (hj : j < l.length) : more (more b (l.take j)) [l[j]] = more b (l.take (j + 1)) := by
 rw [more_more, List.take_succ_eq_append_getElem hj]
theorem sameEs_refl (l : List EntM) : sameEs l l = true := by
 unfold sameEs
 simp [sameE_refl]
theorem sameEs_iff (l r : List EntM) : sameEs l r = true ↔ l = r := by
 constructor
 · intro h
   unfold sameEs at h
   simp only [Bool.and_eq_true, decide_eq_true_eq, List.all_eq_true, List.mem_range] at h
   refine List.ext_getElem h.1 fun j h1 h2 => ?_
   have := (sameE_iff _ _).1 (h.2 j h1)
   rwa [egetD h1, egetD h2] at this
 · rintro rfl
   exact sameEs_refl l
theorem sameEs_len {l r : List EntM} (h : l.length ≠ r.length) : sameEs l r = false := by
 unfold sameEs
 rw [decide_eq_false h, Bool.false_and]
theorem sameEs_step {l r : List EntM} {j : Nat} (_hj : j < l.length) (h : sameE (l.getD j ent0) (r.getD j ent0) = false) : sameEs l r = false := by
 rw [Bool.eq_false_iff]
 intro h2
 have e := (sameEs_iff l r).1 h2
 subst e
 rw [sameE_refl] at h
 cases h
theorem getD_left {l r : List EntM} {j : Nat} (h : j < l.length) : (l ++ r).getD j ent0 = l.getD j ent0 := by
 rw [List.getD_eq_getElem?_getD, List.getElem?_append_left h, ← List.getD_eq_getElem?_getD]
theorem getD_last (l : List EntM) (e : EntM) : (l ++ [e]).getD l.length ent0 = e := by
 rw [List.getD_eq_getElem?_getD, List.getElem?_append_right (Nat.le_refl _), Nat.sub_self]
 rfl
theorem entsB_all {l : List EntM} (h : entsB l = true) {j : Nat} (hj : j < l.length) : entB l[j] = true ∧ nextAt l j = true := by
 have h1 := ((entsB_iff l).1 h).2 j hj
 rw [entsAt_eq hj, Bool.and_eq_true] at h1
 exact h1
theorem entsB_snoc {l : List EntM} {e : EntM} (h : entsB l = true) (hl : l.length < 2000) (he : entB e = true) (hn : l.length = 0 ∨ (e.idx = (l.getD (l.length - 1) ent0).idx + 1 ∧ (l.getD (l.length - 1) ent0).tm ≤ e.tm)) : entsB (l ++ [e]) = true := by
 rw [entsB_iff]
 refine ⟨by rw [List.length_append, List.length_singleton]; omega, fun j hj => ?_⟩
 rw [List.length_append, List.length_singleton] at hj
 by_cases h1 : j < l.length
 · have h2 := ((entsB_iff l).1 h).2 j h1
   unfold entsAt nextAt at h2 ⊢
   rw [getD_left h1, getD_left (show j - 1 < l.length by omega)]
   exact h2
 · obtain rfl : j = l.length := by omega
   unfold entsAt nextAt
   rw [getD_last, he, Bool.true_and]
   rcases hn with h0 | ⟨h2, h3⟩
   · rw [decide_eq_true h0, Bool.true_or]
   · by_cases h0 : l.length = 0
     · rw [decide_eq_true h0, Bool.true_or]
     · rw [getD_left (show l.length - 1 < l.length by omega), decide_eq_true h2, decide_eq_true h3]
       simp
theorem book_idx {b : BookM} (h : bookB b = true) : ∀ j (hj : j < b.ents.length), b.ents[j].idx = b.base + 1 + (j : Int) := by
 obtain ⟨_, _, _, _, he, hh⟩ := (bookB_iff b).1 h
 intro j
 induction j with
 | zero =>
  intro hj
  unfold headB at hh
  rw [decide_eq_false (show ¬ b.ents.length = 0 by omega), Bool.false_or, Bool.and_eq_true, decide_eq_true_eq, egetD hj] at hh
  rw [hh.1]
  simp
 | succ k ih =>
  intro hj
  have h1 := (entsB_all he hj).2
  rw [nextAt_succ hj, Bool.and_eq_true, decide_eq_true_eq] at h1
  rw [h1.1, ih (by omega)]
  omega
theorem timeAt_last {b : BookM} (h0 : 0 < b.ents.length) : timeAt b (lastB b) = (b.ents.getD (b.ents.length - 1) ent0).tm := by
 have h1 : b.ents.length - 1 < b.ents.length := by omega
 rw [egetD h1, ← timeAt_in h1]
 congr 1
 unfold lastB
 omega
theorem timeAt_none {b : BookM} (h0 : b.ents.length = 0) : timeAt b (lastB b) = b.tm := by
 rw [show lastB b = b.base by unfold lastB; omega, timeAt_base]
theorem nextB_iff (b : BookM) (e : EntM) : nextB b e = true ↔ entB e = true ∧ e.idx = lastB b + 1 ∧ timeAt b (lastB b) ≤ e.tm ∧ b.ents.length ≠ 20 := by
 unfold nextB
 simp only [Bool.and_eq_true, decide_eq_true_eq]
theorem bookB_more {b : BookM} {e : EntM} (h : bookB b = true) (hn : nextB b e = true) : bookB (more b [e]) = true := by
 obtain ⟨h1, h2, h3, h4, h5, h6⟩ := (bookB_iff b).1 h
 obtain ⟨n1, n2, n3, n4⟩ := (nextB_iff b e).1 hn
 rw [bookB_iff]
 refine ⟨h1, h2, h3, by show (b.ents ++ [e]).length ≤ 20; rw [List.length_append, List.length_singleton]; omega, entsB_snoc h5 (by omega) n1 ?_, ?_⟩
 · by_cases h0 : b.ents.length = 0
   · exact .inl h0
   · refine .inr ⟨?_, ?_⟩
     · rw [egetD (show b.ents.length - 1 < b.ents.length by omega), book_idx h, n2]
       unfold lastB
       omega
     · rw [← timeAt_last (by omega)]
       exact n3
 · unfold headB
   show (decide ((b.ents ++ [e]).length = 0) || (decide (((b.ents ++ [e]).getD 0 ent0).idx = b.base + 1) && decide (b.tm ≤ ((b.ents ++ [e]).getD 0 ent0).tm))) = true
   by_cases h0 : b.ents.length = 0
   · have e1 : b.ents = [] := List.eq_nil_of_length_eq_zero h0
     rw [e1]
     have n5 := timeAt_none h0
     rw [n5] at n3
     have n6 : e.idx = b.base + 1 := by rw [n2]; unfold lastB; omega
     simp [n6, n3]
   · rw [getD_left (by omega)]
     unfold headB at h6
     rw [decide_eq_false h0, Bool.false_or] at h6
     rw [h6, Bool.or_true]
theorem grown_ok {b : BookM} {l : List EntM} (h : bookB b = true) : ∀ j, j ≤ l.length → (∀ q, q < j → growAt b l q = true) → bookB (more b (l.take j)) = true := by
 intro j
 induction j with
 | zero =>
  intro _ _
  rw [List.take_zero, more_nil]
  exact h
 | succ k ih =>
  intro hk hall
  have h1 := ih (by omega) fun q hq => hall q (by omega)
  have h2 := hall k (by omega)
  unfold growAt at h2
  rw [egetD (show k < l.length by omega)] at h2
  rw [← more_take (show k < l.length by omega)]
  exact bookB_more h1 h2
def fitsM (b : BookM) (s : List MarkM) (r : List Int) : Bool := (rowSlotM r).2 && (decide ((rowSlotM r).1.idx = lastB b + 1) && ((appM b (rowSlotM r).1).2 && (markedM s (rowSlotM r).1).2))
def pickM (b : BookM) (s : List MarkM) (rows : List (List Int)) : EntM × Bool :=
 match rows.find? (fitsM b s) with
 | some r => ((rowSlotM r).1, true)
 | none => (ent0, false)
def nextM (t : TwoM) (b : BookM) (s : List MarkM) : EntM × Bool := pickM b s (rightAt t (slotOfM (lastB b + 1)))
def stepM (t : TwoM) (x : BookM × List MarkM) : BookM × List MarkM := if (nextM t x.1 x.2).2 = true then ((appM x.1 (nextM t x.1 x.2).1).1, (markedM x.2 (nextM t x.1 x.2).1).1) else x
def bookAt (t : TwoM) (h : HeadM) : Nat → BookM × List MarkM
 | 0 => (⟨h.base, h.tm, []⟩, h.seen)
 | j + 1 => stepM t (bookAt t h j)
def bookInM (t : TwoM) (h : HeadM) : BookM := if keptB t = true ∧ headOkB h = true then (bookAt t h 21).1 else book0
def rowsOf (h : HeadM) (b : BookM) : List (List Int) := b.ents.foldl (fun rows e => rows.set (slotOfM e.idx).toNat (slotRowM e)) ((List.replicate 22 []).set (h.num % 2).toNat (headRowM h))
def mendTo (t : TwoM) (rows : List (List Int)) : Nat → TwoM
 | 0 => t
 | k + 1 => mendedAt (mendTo t rows k) (k : Int) (rows.getD k [])
def recTwo (t : TwoM) (h : HeadM) (b : BookM) : TwoM := mendTo (bothSynced t) (rowsOf h b) 22
structure RecM where
 two : TwoM
 head : HeadM
 book : BookM
 ok : Bool
def recoveredM (t : TwoM) : RecM := if (headInM t).2 = true then ⟨recTwo t (headInM t).1 (bookInM t (headInM t).1), (headInM t).1, bookInM t (headInM t).1, true⟩ else ⟨zeroT, headZ, book0, false⟩
theorem fits_iff (b : BookM) (s : List MarkM) (r : List Int) : fitsM b s r = true ↔ (rowSlotM r).2 = true ∧ (rowSlotM r).1.idx = lastB b + 1 ∧ (appM b (rowSlotM r).1).2 = true ∧ (markedM s (rowSlotM r).1).2 = true := by
 unfold fitsM
 simp only [Bool.and_eq_true, decide_eq_true_eq]
theorem pick_yes {b : BookM} {s : List MarkM} {rows : List (List Int)} (h : (pickM b s rows).2 = true) : ∃ r ∈ rows, fitsM b s r = true ∧ (pickM b s rows).1 = (rowSlotM r).1 := by
 unfold pickM at h ⊢
 cases hf : rows.find? (fitsM b s) with
 | none => rw [hf] at h; cases h
 | some r => exact ⟨r, List.mem_of_find?_eq_some hf, List.find?_some hf, rfl⟩
theorem pick_no {b : BookM} {s : List MarkM} {rows : List (List Int)} (h : ∀ r ∈ rows, fitsM b s r = false) : pickM b s rows = (ent0, false) := by
 unfold pickM
 rw [List.find?_eq_none.2 fun r hr => by rw [h r hr]; decide]
theorem app_yes {b : BookM} {e : EntM} (h : (appM b e).2 = true) : bookB b = true ∧ nextB b e = true ∧ (appM b e).1 = more b [e] := by
 unfold appM at h ⊢
 split at h
 next h1 =>
  split at h
  next h2 => exact ⟨h1, h2, by rw [if_pos h1, if_pos h2]⟩
  next => cases h
 next => cases h
theorem mark_yes {s : List MarkM} {e : EntM} (h : (markedM s e).2 = true) : seenB s = true ∧ mayB s e = true ∧ (markedM s e).1 = insM s ⟨e.cl, e.sq, e.idx⟩ := by
 unfold markedM at h ⊢
 split at h
 next h1 =>
  split at h
  next h2 => exact ⟨h1, h2, by rw [if_pos h1, if_pos h2]⟩
  next => cases h
 next => cases h
def GoodX (x : BookM × List MarkM) : Prop := bookB x.1 = true ∧ seenB x.2 = true
theorem head_good {h : HeadM} (ho : headOkB h = true) : GoodX (⟨h.base, h.tm, []⟩, h.seen) := by
 obtain ⟨h1, h2, h3, h4, h5, h6⟩ := (headOkB_iff h).1 ho
 refine ⟨(bookB_iff _).2 ⟨h1, h3, ?_, by simp, by rfl, by rfl⟩, h5⟩
 rcases h4 with h4 | h4
 · exact Or.inl (show h.base ≠ 0 by omega)
 · exact Or.inr h4
theorem step_yes {t : TwoM} {x : BookM × List MarkM} (hn : (nextM t x.1 x.2).2 = true) : ∃ e, (nextM t x.1 x.2).1 = e ∧ nextB x.1 e = true ∧ mayB x.2 e = true ∧ stepM t x = (more x.1 [e], insM x.2 ⟨e.cl, e.sq, e.idx⟩) ∧ bookB x.1 = true ∧ seenB x.2 = true ∧ (appM x.1 e).2 = true ∧ (markedM x.2 e).2 = true := by
 obtain ⟨r, hr, hf, he⟩ := pick_yes hn
 obtain ⟨f1, f2, f3, f4⟩ := (fits_iff _ _ _).1 hf
 have he' : (nextM t x.1 x.2).1 = (rowSlotM r).1 := he
 obtain ⟨a1, a2, a3⟩ := app_yes f3
 obtain ⟨m1, m2, m3⟩ := mark_yes f4
 refine ⟨_, he', a2, m2, ?_, a1, m1, f3, f4⟩
 unfold stepM
 rw [if_pos hn, he', a3, m3]
theorem step_no {t : TwoM} {x : BookM × List MarkM} (hn : (nextM t x.1 x.2).2 = false) : stepM t x = x := by
 unfold stepM
 rw [if_neg (by rw [hn]; decide)]
theorem step_good {t : TwoM} {x : BookM × List MarkM} (hg : GoodX x) : GoodX (stepM t x) := by
 cases hn : (nextM t x.1 x.2).2
 · rw [step_no hn]; exact hg
 · obtain ⟨e, _, h1, h2, h3, _⟩ := step_yes hn
   rw [h3]
   exact ⟨bookB_more hg.1 h1, marked_ok hg.2 h2⟩
theorem bookAt_good {t : TwoM} {h : HeadM} (ho : headOkB h = true) : ∀ j, GoodX (bookAt t h j)
 | 0 => head_good ho
 | j + 1 => step_good (bookAt_good ho j)
theorem bookAt_base {t : TwoM} {h : HeadM} : ∀ j, (bookAt t h j).1.base = h.base ∧ (bookAt t h j).1.tm = h.tm
 | 0 => ⟨rfl, rfl⟩
 | j + 1 => by
  show (stepM t (bookAt t h j)).1.base = h.base ∧ (stepM t (bookAt t h j)).1.tm = h.tm
  cases hn : (nextM t (bookAt t h j).1 (bookAt t h j).2).2
  · rw [step_no hn]; exact bookAt_base j
  · obtain ⟨e, _, _, _, h3, _⟩ := step_yes hn
    rw [h3]
    exact bookAt_base j
theorem bookAt_stay {t : TwoM} {h : HeadM} {j : Nat} (hn : (nextM t (bookAt t h j).1 (bookAt t h j).2).2 = false) : ∀ k, bookAt t h (j + k) = bookAt t h j
 | 0 => rfl
 | k + 1 => by
  show stepM t (bookAt t h (j + k)) = _
  rw [bookAt_stay hn k, step_no hn]
theorem bookIn_end {t : TwoM} {h : HeadM} (hk : keptB t = true) (ho : headOkB h = true) {j : Nat} (hj : j ≤ 21) (hn : (nextM t (bookAt t h j).1 (bookAt t h j).2).2 = false) : bookInM t h = (bookAt t h j).1 := by
 unfold bookInM
 rw [if_pos ⟨hk, ho⟩, show 21 = j + (21 - j) by omega, bookAt_stay hn]
theorem bookIn_ok {t : TwoM} {h : HeadM} (hk : keptB t = true) (ho : headOkB h = true) : bookB (bookInM t h) = true ∧ (bookInM t h).base = h.base ∧ (bookInM t h).tm = h.tm := by
 unfold bookInM
 rw [if_pos ⟨hk, ho⟩]
 exact ⟨(bookAt_good ho 21).1, bookAt_base 21⟩
theorem rowsOf_len (h : HeadM) (b : BookM) : (rowsOf h b).length = 22 := by
 unfold rowsOf
 have : ∀ (l : List EntM) (rows : List (List Int)), (l.foldl (fun rows e => rows.set (slotOfM e.idx).toNat (slotRowM e)) rows).length = rows.length := fun l => by
  induction l with
  | nil => intro rows; rfl
  | cons e l ih => intro rows; rw [List.foldl_cons, ih, List.length_set]
 rw [this]
 simp
theorem keptB_mend {t : TwoM} (h : keptB t = true) (i : Int) (r : List Int) : twoOk (mendedAt t i r) = true ∧ (mendedAt t i r).a.kept.length = 22 := by
 obtain ⟨h1, h2⟩ := (keptB_iff t).1 h
 have h3 := bothWrote_ok h1 i r
 have h4 : (bothWrote t i r).1.a.kept.length = 22 := by
  unfold bothWrote
  rw [if_pos h1]
  split
  · show (wrote t.a i (withSum r)).1.kept.length = 22
    rw [wrote_len (twoOk_iff.1 h1).1, h2]
  · exact h2
 unfold mendedAt
 split
 · refine ⟨bothSynced_ok h3, ?_⟩
   unfold bothSynced
   rw [if_pos h3]
   show (synced (bothWrote t i r).1.a).kept.length = 22
   rw [synced_lenT (twoOk_iff.1 h3).1, h4]
 · exact ⟨h3, h4⟩
theorem mendTo_ok {t : TwoM} (h : keptB t = true) (rows : List (List Int)) : ∀ k, keptB (mendTo t rows k) = true
 | 0 => h
 | k + 1 => (keptB_iff _).2 (keptB_mend (mendTo_ok h rows k) _ _)
end Go.Proofs.YtmjifhjhialcbaaGreat

/- Parts of my texts: Mark Head Ent EntM MarkM. -/
import Derived.Test.YtmjifhjhialcbaaU1
import Derived.RegionTactic
namespace Go.Proofs.Ytmjifhjhialcbaa
set_option maxRecDepth 100000
set_option linter.unusedVariables false
open Go.RowKit
structure MarkM where
 mc : Int
 ms : Int
 mi : Int
def mrkC (x : MarkM) : List Dat := [.int x.mc, .int x.ms, .int x.mi]
theorem mrkC_len (x : MarkM) : (mrkC x).length = 3 := rfl
def mrkD (l : List MarkM) : Dat := lst 76 3 mrkC l
def mrkSz (l : List MarkM) : Nat := l.length
def mrkNs (x : MarkM) : List Int := x.mc :: x.ms :: x.mi :: []
theorem infoMark : (Try.prog.info? 76).map (fun i => (i.zero, i.size, i.bytes)) = some (some (.agg #[.int .i64 0, .int .i64 0, .int .i64 0]), 3, 24) := by kernel_rfl
theorem Rd.mrks {w : World} {B : Nat} {v0 : Value} {l : List MarkM} (h : Rd w B [mrkD l] [v0]) : ∃ A n c, v0 = .slice A n c ∧ l.length = n ∧ n ≤ c ∧ c ≤ maxLen ∧
    (0 < n → ∃ b off, A = some ⟨b, off, none⟩ ∧ b < B ∧ ∀ j (hj : j < l.length), w.cell? ⟨b, off + j * 3, none⟩ = some (.int .i64 l[j].mc) ∧ w.cell? ⟨b, off + j * 3 + 1, none⟩ = some (.int .i64 l[j].ms) ∧ w.cell? ⟨b, off + j * 3 + 2, none⟩ = some (.int .i64 l[j].mi)) := by
 obtain ⟨A, n, c, rfl, hl, h1, h2, h3⟩ := Rd.lst (k := 3) mrkC_len (by decide) h
 refine ⟨A, n, c, rfl, hl, h1, h2, fun hn => ?_⟩
 obtain ⟨b, off, rfl, hb, hc⟩ := h3 hn
 refine ⟨b, off, rfl, hb, fun j hj => ?_⟩
 obtain ⟨es, he, hr, hcell⟩ := hc j hj
 match es, he with
 | [u0, u1, u2], _ =>
  have h0' := hcell 0 (by omega)
  have h1' := hcell 1 (by omega)
  have h2' := hcell 2 (by omega)
  simp only [Nat.add_zero] at h0'
  have g0 : Rd w B (mrkC l[j]) [u0, u1, u2] := hr
  obtain ⟨e0, g1⟩ := Rd.int_cons g0
  obtain ⟨e1, g2⟩ := Rd.int_cons g1
  obtain ⟨e2, g3⟩ := Rd.int_cons g2
  subst e0
  subst e1
  subst e2
  exact ⟨h0', h1', h2'⟩
structure HeadM where
 num : Int
 base : Int
 tm : Int
 seen : List MarkM
def HeadM.cells (t : HeadM) : List Dat := [.int t.num] ++ ([.int t.base] ++ ([.int t.tm] ++ ([mrkD t.seen])))
structure OpM where
 kind : Int
 a : Int
 b : Int
 c : Int
 d : Int
structure EntM where
 idx : Int
 tm : Int
 cl : Int
 sq : Int
 kd : Int
 oa : Int
 ob : Int
 oc : Int
 od : Int
def entC (x : EntM) : List Dat := [.int x.idx, .int x.tm, .int x.cl, .int x.sq, .int x.kd, .int x.oa, .int x.ob, .int x.oc, .int x.od]
theorem entC_len (x : EntM) : (entC x).length = 9 := rfl
def entD (l : List EntM) : Dat := lst 35 9 entC l
def entSz (l : List EntM) : Nat := l.length
def entNs (x : EntM) : List Int := x.idx :: x.tm :: x.cl :: x.sq :: x.kd :: x.oa :: x.ob :: x.oc :: x.od :: []
theorem infoEntry : (Try.prog.info? 35).map (fun i => (i.zero, i.size, i.bytes)) = some (some (.agg #[.int .i64 0, .int .i64 0, .int .i64 0, .int .i64 0, .int .i64 0, .int .i64 0, .int .i64 0, .int .i64 0, .int .i64 0]), 9, 72) := by kernel_rfl
theorem Rd.ents {w : World} {B : Nat} {v0 : Value} {l : List EntM} (h : Rd w B [entD l] [v0]) : ∃ A n c, v0 = .slice A n c ∧ l.length = n ∧ n ≤ c ∧ c ≤ maxLen ∧
    (0 < n → ∃ b off, A = some ⟨b, off, none⟩ ∧ b < B ∧ ∀ j (hj : j < l.length), w.cell? ⟨b, off + j * 9, none⟩ = some (.int .i64 l[j].idx) ∧ w.cell? ⟨b, off + j * 9 + 1, none⟩ = some (.int .i64 l[j].tm) ∧ w.cell? ⟨b, off + j * 9 + 2, none⟩ = some (.int .i64 l[j].cl) ∧ w.cell? ⟨b, off + j * 9 + 3, none⟩ = some (.int .i64 l[j].sq) ∧ w.cell? ⟨b, off + j * 9 + 4, none⟩ = some (.int .i64 l[j].kd) ∧ w.cell? ⟨b, off + j * 9 + 5, none⟩ = some (.int .i64 l[j].oa) ∧ w.cell? ⟨b, off + j * 9 + 6, none⟩ = some (.int .i64 l[j].ob) ∧ w.cell? ⟨b, off + j * 9 + 7, none⟩ = some (.int .i64 l[j].oc) ∧ w.cell? ⟨b, off + j * 9 + 8, none⟩ = some (.int .i64 l[j].od)) := by
 obtain ⟨A, n, c, rfl, hl, h1, h2, h3⟩ := Rd.lst (k := 9) entC_len (by decide) h
 refine ⟨A, n, c, rfl, hl, h1, h2, fun hn => ?_⟩
 obtain ⟨b, off, rfl, hb, hc⟩ := h3 hn
 refine ⟨b, off, rfl, hb, fun j hj => ?_⟩
 obtain ⟨es, he, hr, hcell⟩ := hc j hj
 match es, he with
 | [u0, u1, u2, u3, u4, u5, u6, u7, u8], _ =>
  have h0' := hcell 0 (by omega)
  have h1' := hcell 1 (by omega)
  have h2' := hcell 2 (by omega)
  have h3' := hcell 3 (by omega)
  have h4' := hcell 4 (by omega)
  have h5' := hcell 5 (by omega)
  have h6' := hcell 6 (by omega)
  have h7' := hcell 7 (by omega)
  have h8' := hcell 8 (by omega)
  simp only [Nat.add_zero] at h0'
  have g0 : Rd w B (entC l[j]) [u0, u1, u2, u3, u4, u5, u6, u7, u8] := hr
  obtain ⟨e0, g1⟩ := Rd.int_cons g0
  obtain ⟨e1, g2⟩ := Rd.int_cons g1
  obtain ⟨e2, g3⟩ := Rd.int_cons g2
  obtain ⟨e3, g4⟩ := Rd.int_cons g3
  obtain ⟨e4, g5⟩ := Rd.int_cons g4
  obtain ⟨e5, g6⟩ := Rd.int_cons g5
  obtain ⟨e6, g7⟩ := Rd.int_cons g6
  obtain ⟨e7, g8⟩ := Rd.int_cons g7
  obtain ⟨e8, g9⟩ := Rd.int_cons g8
  subst e0
  subst e1
  subst e2
  subst e3
  subst e4
  subst e5
  subst e6
  subst e7
  subst e8
  exact ⟨h0', h1', h2', h3', h4', h5', h6', h7', h8'⟩
theorem Ow.ent {w : World} {x : EntM} {y0 y1 y2 y3 y4 y5 y6 y7 y8 : Value} {f2 : List Nat} (h : Ow w (entC x) [y0, y1, y2, y3, y4, y5, y6, y7, y8] f2) : y0 = .int .i64 x.idx ∧ y1 = .int .i64 x.tm ∧ y2 = .int .i64 x.cl ∧ y3 = .int .i64 x.sq ∧ y4 = .int .i64 x.kd ∧ y5 = .int .i64 x.oa ∧ y6 = .int .i64 x.ob ∧ y7 = .int .i64 x.oc ∧ y8 = .int .i64 x.od ∧ f2 = [] := by
 have g0 : Ow w (entC x) [y0, y1, y2, y3, y4, y5, y6, y7, y8] f2 := h
 obtain ⟨e0, g1⟩ := Ow.int_cons g0
 obtain ⟨e1, g2⟩ := Ow.int_cons g1
 obtain ⟨e2, g3⟩ := Ow.int_cons g2
 obtain ⟨e3, g4⟩ := Ow.int_cons g3
 obtain ⟨e4, g5⟩ := Ow.int_cons g4
 obtain ⟨e5, g6⟩ := Ow.int_cons g5
 obtain ⟨e6, g7⟩ := Ow.int_cons g6
 obtain ⟨e7, g8⟩ := Ow.int_cons g7
 obtain ⟨e8, g9⟩ := Ow.int_cons g8
 exact ⟨e0, e1, e2, e3, e4, e5, e6, e7, e8, Ow.nil_foot g9⟩
def inB (x lo hi : Int) : Bool := decide (lo ≤ x) && decide (x ≤ hi)
theorem inB_iff (x lo hi : Int) : inB x lo hi = true ↔ lo ≤ x ∧ x ≤ hi := by simp [inB]
def opB (o : OpM) : Bool :=
 if o.kind = 1 then inB o.a 0 9 && (inB o.b 0 999 && (decide (o.c = 0) && decide (o.d = 0)))
 else if o.kind = 2 then inB o.a 0 9 && (decide (o.b = 0) && (decide (o.c = 0) && decide (o.d = 0)))
 else if o.kind = 3 then inB o.a 1 20 && (inB o.b 0 1000000 && (inB o.c 0 9 && inB o.d 0 999))
 else if o.kind = 4 then inB o.a 1 20 && (inB o.b 0 1000 && (decide (o.c = 0) && decide (o.d = 0)))
 else if o.kind = 5 then inB o.a 1 1000 && (decide (o.b = 0) && (decide (o.c = 0) && decide (o.d = 0)))
 else false
def EntM.op (e : EntM) : OpM := ⟨e.kd, e.oa, e.ob, e.oc, e.od⟩
def askB (x : Int) : Bool := inB x 2 5
def entB (e : EntM) : Bool := inB e.idx 1 2000 && (inB e.tm 0 1000000 && (askB e.cl && (inB e.sq 1 2000 && opB e.op)))
def ent0 : EntM := ⟨0, 0, 0, 0, 0, 0, 0, 0, 0⟩
def opNs (o : OpM) : List Int := [o.kind, o.a, o.b, o.c, o.d]
def ofOp (r : List Int) : OpM := ⟨r.getD 0 0, r.getD 1 0, r.getD 2 0, r.getD 3 0, r.getD 4 0⟩
def entRowM (e : EntM) : List Int := if entB e = true then entNs e else []
def ofEnt (r : List Int) : EntM := ⟨r.getD 0 0, r.getD 1 0, r.getD 2 0, r.getD 3 0, r.getD 4 0, r.getD 5 0, r.getD 6 0, r.getD 7 0, r.getD 8 0⟩
def rowEntM (r : List Int) : EntM × Bool := if r.length = 9 then (if entB (ofEnt r) = true then (ofEnt r, true) else (ent0, false)) else (ent0, false)
def nextAt (l : List EntM) (j : Nat) : Bool := decide (j = 0) || (decide ((l.getD j ent0).idx = (l.getD (j - 1) ent0).idx + 1) && decide ((l.getD (j - 1) ent0).tm ≤ (l.getD j ent0).tm))
def entsAt (l : List EntM) (j : Nat) : Bool := entB (l.getD j ent0) && nextAt l j
def entsB (l : List EntM) : Bool := decide (l.length ≤ 2000) && (List.range l.length).all (entsAt l)
theorem egetD {l : List EntM} {j : Nat} (hj : j < l.length) : l.getD j ent0 = l[j] := by simp [List.getD, List.getElem?_eq_getElem hj]
theorem entB_iff (e : EntM) : entB e = true ↔ (1 ≤ e.idx ∧ e.idx ≤ 2000) ∧ (0 ≤ e.tm ∧ e.tm ≤ 1000000) ∧ (2 ≤ e.cl ∧ e.cl ≤ 5) ∧ (1 ≤ e.sq ∧ e.sq ≤ 2000) ∧ opB e.op = true := by
 unfold entB askB
 simp only [Bool.and_eq_true, inB_iff]
theorem entsB_iff (l : List EntM) : entsB l = true ↔ l.length ≤ 2000 ∧ ∀ j, j < l.length → entsAt l j = true := by
 unfold entsB
 simp only [Bool.and_eq_true, decide_eq_true_eq, List.all_eq_true, List.mem_range]
theorem entsB_end {l : List EntM} (h : l.length ≤ 2000) (h2 : ∀ j, j < l.length → entsAt l j = true) : entsB l = true := (entsB_iff l).2 ⟨h, h2⟩
theorem nextAt_succ {l : List EntM} {k : Nat} (h : k + 1 < l.length) : nextAt l (k + 1) = (decide (l[k + 1].idx = l[k].idx + 1) && decide (l[k].tm ≤ l[k + 1].tm)) := by
 unfold nextAt
 rw [Nat.add_sub_cancel, egetD h, egetD (show k < l.length by omega), decide_eq_false (by omega), Bool.false_or]
theorem entsAt_eq {l : List EntM} {j : Nat} (hj : j < l.length) : entsAt l j = (entB l[j] && nextAt l j) := by
 unfold entsAt
 rw [egetD hj]
def mark0 : MarkM := ⟨0, 0, 0⟩
def markB (x : MarkM) : Bool := askB x.mc && (inB x.ms 1 2000 && inB x.mi 1 2000)
theorem mgetD {l : List MarkM} {j : Nat} (hj : j < l.length) : l.getD j mark0 = l[j] := by simp [List.getD, List.getElem?_eq_getElem hj]
theorem markB_iff (x : MarkM) : markB x = true ↔ (2 ≤ x.mc ∧ x.mc ≤ 5) ∧ (1 ≤ x.ms ∧ x.ms ≤ 2000) ∧ (1 ≤ x.mi ∧ x.mi ≤ 2000) := by
 unfold markB askB
 simp only [Bool.and_eq_true, inB_iff]
def freeTo (l : List MarkM) (j k : Nat) : Bool := (List.range k).all fun q => decide ((l.getD q mark0).mi ≠ (l.getD j mark0).mi)
def riseAt (l : List MarkM) (j : Nat) : Bool := decide (j = 0) || decide ((l.getD (j - 1) mark0).mc < (l.getD j mark0).mc)
def seenAt (l : List MarkM) (j : Nat) : Bool := (markB (l.getD j mark0) && riseAt l j) && freeTo l j j
def seenB (l : List MarkM) : Bool := decide (l.length ≤ 4) && (List.range l.length).all (seenAt l)
theorem seenB_iff (l : List MarkM) : seenB l = true ↔ l.length ≤ 4 ∧ ∀ j, j < l.length → seenAt l j = true := by
 unfold seenB
 simp only [Bool.and_eq_true, decide_eq_true_eq, List.all_eq_true, List.mem_range]
theorem seenB_long {l : List MarkM} (h : 4 < l.length) : seenB l = false := by
 unfold seenB
 rw [decide_eq_false (by omega), Bool.false_and]
theorem seenB_step {l : List MarkM} {j : Nat} (hj : j < l.length) (h : seenAt l j = false) : seenB l = false := by
 rw [Bool.eq_false_iff]
 intro h2
 have := ((seenB_iff l).1 h2).2 j hj
 rw [h] at this
 cases this
theorem freeTo_iff (l : List MarkM) (j k : Nat) : freeTo l j k = true ↔ ∀ q, q < k → (l.getD q mark0).mi ≠ (l.getD j mark0).mi := by
 unfold freeTo
 simp only [List.all_eq_true, List.mem_range, decide_eq_true_eq]
theorem freeTo_no {l : List MarkM} {j k q : Nat} (hq : q < k) (h : (l.getD q mark0).mi = (l.getD j mark0).mi) : freeTo l j k = false := by
 rw [Bool.eq_false_iff]
 intro h2
 exact (freeTo_iff l j k).1 h2 q hq h
theorem seen_mark {l : List MarkM} (h : seenB l = true) {j : Nat} (hj : j < l.length) : markB l[j] = true := by
 have h1 := ((seenB_iff l).1 h).2 j hj
 unfold seenAt at h1
 rw [mgetD hj, Bool.and_eq_true, Bool.and_eq_true] at h1
 exact h1.1.1
theorem seen_len {l : List MarkM} (h : seenB l = true) : l.length ≤ 4 := ((seenB_iff l).1 h).1
def findM (l : List MarkM) (c : Int) : MarkM := (l.find? fun x => x.mc == c).getD mark0
def markOf (l : List MarkM) (c : Int) : MarkM := if seenB l = true then findM l c else mark0
def noneTo (l : List MarkM) (c : Int) (j : Nat) : Prop := ∀ q, q < j → (l.getD q mark0).mc ≠ c
theorem findM_at {l : List MarkM} {c : Int} : ∀ {j : Nat} (hj : j < l.length), noneTo l c j → l[j].mc = c → findM l c = l[j] := by
 induction l with
 | nil => intro j hj; exact absurd hj (by simp)
 | cons x t ih =>
  intro j hj hn he
  unfold findM
  rw [List.find?_cons]
  cases j with
  | zero =>
   have e : (x.mc == c) = true := by simpa using he
   rw [e]
   rfl
  | succ k =>
   have h0 := hn 0 (by omega)
   have e : (x.mc == c) = false := by simpa using h0
   rw [e]
   have hk : k < t.length := by simpa using hj
   have := ih hk (fun q hq => by have := hn (q + 1) (by omega); simpa using this) (by simpa using he)
   unfold findM at this
   rw [this]
   simp
theorem findM_none {l : List MarkM} {c : Int} (h : noneTo l c l.length) : findM l c = mark0 := by
 unfold findM
 rw [List.find?_eq_none.2 fun x hx => ?_]
 · rfl
 · obtain ⟨j, hj, rfl⟩ := List.getElem_of_mem hx
   have := h j hj
   rw [mgetD hj] at this
   simpa using this
def freshB (l : List MarkM) (c s : Int) : Bool := seenB l && (askB c && (inB s 1 2000 && decide ((markOf l c).ms < s)))
def maxTo (l : List MarkM) (j : Nat) : Int := (l.take j).foldl (fun a x => max a x.mi) 0
def lastS (l : List MarkM) : Int := if seenB l = true then maxTo l l.length else 0
theorem maxTo_step {l : List MarkM} {j : Nat} (hj : j < l.length) : maxTo l (j + 1) = max (maxTo l j) l[j].mi := by
 unfold maxTo
 rw [List.take_succ_eq_append_getElem hj, List.foldl_append]
 rfl
theorem maxTo_zero (l : List MarkM) : maxTo l 0 = 0 := by
 unfold maxTo
 rw [List.take_zero]
 rfl
def insM (l : List MarkM) (x : MarkM) : List MarkM := (l.filter fun y => decide (y.mc < x.mc)) ++ x :: (l.filter fun y => decide (x.mc < y.mc))
def mayB (l : List MarkM) (e : EntM) : Bool := entB e && (freshB l e.cl e.sq && decide (lastS l < e.idx))
def markedM (l : List MarkM) (e : EntM) : List MarkM × Bool := if seenB l = true then (if mayB l e = true then (insM l ⟨e.cl, e.sq, e.idx⟩, true) else (l, false)) else ([], false)
def overM (l : List MarkM) (es : List EntM) : List MarkM := es.foldl (fun a e => insM a ⟨e.cl, e.sq, e.idx⟩) l
def overAt (l : List MarkM) (es : List EntM) (j : Nat) : Bool := mayB (overM l (es.take j)) (es.getD j ent0)
def overB (l : List MarkM) (es : List EntM) : Bool := (List.range es.length).all (overAt l es)
def seenOverM (l : List MarkM) (es : List EntM) : List MarkM × Bool := if seenB l = true then (if es.length ≤ 2000 then (if overB l es = true then (overM l es, true) else (l, false)) else (l, false)) else ([], false)
theorem overM_step {l : List MarkM} {es : List EntM} {j : Nat} (hj : j < es.length) : overM l (es.take (j + 1)) = insM (overM l (es.take j)) ⟨es[j].cl, es[j].sq, es[j].idx⟩ := by
 unfold overM
 rw [List.take_succ_eq_append_getElem hj, List.foldl_append]
 rfl
end Go.Proofs.Ytmjifhjhialcbaa

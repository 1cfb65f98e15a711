/- Parts of my texts: Mark Head Ent EntM MarkM MarkN KD. -/
import Derived.Test.YtmjifhjhialcbaaGreatL1
import Derived.RegionTactic
namespace Go.Proofs.YtmjifhjhialcbaaGreat
set_option maxRecDepth 100000
set_option linter.unusedVariables false
open Go.RowKit
structure MarkM where
 mc : Int
 ms : Int
 mi : Int
def mrkC (x : MarkM) : List Dat := [.int x.mc, .int x.ms, .int x.mi]
theorem mrkC_len (x : MarkM) : (mrkC x).length = 3 := rfl
def mrkD (l : List MarkM) : Dat := lst 113 3 mrkC l
def mrkSz (l : List MarkM) : Nat := l.length
def mrkNs (x : MarkM) : List Int := x.mc :: x.ms :: x.mi :: []
def MadeMarkS (w : World) (l : List MarkM) (e : Ending) (w' : World) : Prop :=
 ∃ A n c, e = .returned (.slice A n c) ∧ Has w' w.heap.size [mrkD l] [.slice A n c] ∧ Below w.heap.size w w'
theorem infoMark : (Tryz.prog.info? 113).map (fun i => (i.zero, i.size, i.bytes)) = some (some (.agg #[.int .i64 0, .int .i64 0, .int .i64 0]), 3, 24) := by kernel_rfl
theorem Rd.mrks {w : World} {B : Nat} {v0 : Value} {l : List MarkM} (h : Rd w B [mrkD l] [v0]) : ∃ A n c, v0 = .slice A n c ∧ l.length = n ∧ n ≤ c ∧ c ≤ maxLen ∧
    (0 < n → ∃ b off, A = some ⟨b, off, none⟩ ∧ b < B ∧ ∀ j (hj : j < l.length), w.cell? ⟨b, off + j * 3, none⟩ = some (.int .i64 l[j].mc) ∧ w.cell? ⟨b, off + j * 3 + 1, none⟩ = some (.int .i64 l[j].ms) ∧ w.cell? ⟨b, off + j * 3 + 2, none⟩ = some (.int .i64 l[j].mi)) := by
 obtain ⟨A, n, c, rfl, hl, h1, h2, h3⟩ := Rd.lst (k := 3) mrkC_len (by decide) h
 refine ⟨A, n, c, rfl, hl, h1, h2, fun hn => ?_⟩
 obtain ⟨b, off, rfl, hb, hc⟩ := h3 hn
 refine ⟨b, off, rfl, hb, fun j hj => ?_⟩
 obtain ⟨es, he, hr, hcell⟩ := hc j hj
 match es, he with
 | [u0, u1, u2], _ =>
  have h0' := hcell 0 (by omega)
  have h1' := hcell 1 (by omega)
  have h2' := hcell 2 (by omega)
  simp only [Nat.add_zero] at h0'
  have g0 : Rd w B (mrkC l[j]) [u0, u1, u2] := hr
  obtain ⟨e0, g1⟩ := Rd.int_cons g0
  obtain ⟨e1, g2⟩ := Rd.int_cons g1
  obtain ⟨e2, g3⟩ := Rd.int_cons g2
  subst e0
  subst e1
  subst e2
  exact ⟨h0', h1', h2'⟩
theorem Ow.mrk {w : World} {x : MarkM} {y0 y1 y2 : Value} {f2 : List Nat} (h : Ow w (mrkC x) [y0, y1, y2] f2) : y0 = .int .i64 x.mc ∧ y1 = .int .i64 x.ms ∧ y2 = .int .i64 x.mi ∧ f2 = [] := by
 have g0 : Ow w (mrkC x) [y0, y1, y2] f2 := h
 obtain ⟨e0, g1⟩ := Ow.int_cons g0
 obtain ⟨e1, g2⟩ := Ow.int_cons g1
 obtain ⟨e2, g3⟩ := Ow.int_cons g2
 exact ⟨e0, e1, e2, Ow.nil_foot g3⟩
structure HeadM where
 num : Int
 base : Int
 tm : Int
 seen : List MarkM
def HeadM.cells (t : HeadM) : List Dat := [.int t.num] ++ ([.int t.base] ++ ([.int t.tm] ++ ([mrkD t.seen])))
theorem Rd.headT {w : World} {B : Nat} {t : HeadM} {v0 v1 v2 v3 : Value} (h : Rd w B t.cells [v0, v1, v2, v3]) : ∃ (A3 : Option Addr) (n3 c3 : Nat), v0 = .int .i64 t.num ∧ v1 = .int .i64 t.base ∧ v2 = .int .i64 t.tm ∧ v3 = .slice A3 n3 c3 ∧ Rd w B ([mrkD t.seen]) [.slice A3 n3 c3] := by
 have g0 : Rd w B ([.int t.num] ++ ([.int t.base] ++ ([.int t.tm] ++ ([mrkD t.seen])))) [v0, v1, v2, v3] := h
 obtain ⟨p0, g1⟩ := Rd.cut (ds := [.int t.num]) (vs := [v0]) (vs' := [v1, v2, v3]) g0 rfl
 obtain ⟨e0, _⟩ := Rd.int_cons p0
 obtain ⟨p1, g2⟩ := Rd.cut (ds := [.int t.base]) (vs := [v1]) (vs' := [v2, v3]) g1 rfl
 obtain ⟨e1, _⟩ := Rd.int_cons p1
 obtain ⟨p2, g3⟩ := Rd.cut (ds := [.int t.tm]) (vs := [v2]) (vs' := [v3]) g2 rfl
 obtain ⟨e2, _⟩ := Rd.int_cons p2
 have p3 := g3
 obtain ⟨A3, n3, c3, e3, _⟩ := Rd.mrks p3
 subst e0
 subst e1
 subst e2
 subst e3
 exact ⟨A3, n3, c3, rfl, rfl, rfl, rfl, p3⟩
theorem Ow.headT {w : World} {t : HeadM} {v0 v1 v2 v3 : Value} {fp : List Nat} (h : Ow w t.cells [v0, v1, v2, v3] fp) : ∃ f3, fp = f3 ++ ([]) ∧ Ow w ([mrkD t.seen]) [v3] f3 := by
 have g0 : Ow w ([.int t.num] ++ ([.int t.base] ++ ([.int t.tm] ++ ([mrkD t.seen] ++ ([]))))) [v0, v1, v2, v3] fp := h
 obtain ⟨_, g1⟩ := Ow.int_cons g0
 obtain ⟨_, g2⟩ := Ow.int_cons g1
 obtain ⟨_, g3⟩ := Ow.int_cons g2
 obtain ⟨f3, r3, rfl, o3, g4⟩ := Ow.cut (ds := [mrkD t.seen]) (vs := [v3]) (vs' := []) g3 rfl
 have gz := Ow.nil_foot g4
 subst gz
 exact ⟨f3, rfl, o3⟩
structure OpM where
 kind : Int
 a : Int
 b : Int
 c : Int
 d : Int
structure EntM where
 idx : Int
 tm : Int
 cl : Int
 sq : Int
 kd : Int
 oa : Int
 ob : Int
 oc : Int
 od : Int
def entC (x : EntM) : List Dat := [.int x.idx, .int x.tm, .int x.cl, .int x.sq, .int x.kd, .int x.oa, .int x.ob, .int x.oc, .int x.od]
theorem entC_len (x : EntM) : (entC x).length = 9 := rfl
def entD (l : List EntM) : Dat := lst 87 9 entC l
def entSz (l : List EntM) : Nat := l.length
def entNs (x : EntM) : List Int := x.idx :: x.tm :: x.cl :: x.sq :: x.kd :: x.oa :: x.ob :: x.oc :: x.od :: []
def MadeEntryS (w : World) (l : List EntM) (e : Ending) (w' : World) : Prop :=
 ∃ A n c, e = .returned (.slice A n c) ∧ Has w' w.heap.size [entD l] [.slice A n c] ∧ Below w.heap.size w w'
theorem infoEntry : (Tryz.prog.info? 87).map (fun i => (i.zero, i.size, i.bytes)) = some (some (.agg #[.int .i64 0, .int .i64 0, .int .i64 0, .int .i64 0, .int .i64 0, .int .i64 0, .int .i64 0, .int .i64 0, .int .i64 0]), 9, 72) := by kernel_rfl
theorem Rd.ents {w : World} {B : Nat} {v0 : Value} {l : List EntM} (h : Rd w B [entD l] [v0]) : ∃ A n c, v0 = .slice A n c ∧ l.length = n ∧ n ≤ c ∧ c ≤ maxLen ∧
    (0 < n → ∃ b off, A = some ⟨b, off, none⟩ ∧ b < B ∧ ∀ j (hj : j < l.length), w.cell? ⟨b, off + j * 9, none⟩ = some (.int .i64 l[j].idx) ∧ w.cell? ⟨b, off + j * 9 + 1, none⟩ = some (.int .i64 l[j].tm) ∧ w.cell? ⟨b, off + j * 9 + 2, none⟩ = some (.int .i64 l[j].cl) ∧ w.cell? ⟨b, off + j * 9 + 3, none⟩ = some (.int .i64 l[j].sq) ∧ w.cell? ⟨b, off + j * 9 + 4, none⟩ = some (.int .i64 l[j].kd) ∧ w.cell? ⟨b, off + j * 9 + 5, none⟩ = some (.int .i64 l[j].oa) ∧ w.cell? ⟨b, off + j * 9 + 6, none⟩ = some (.int .i64 l[j].ob) ∧ w.cell? ⟨b, off + j * 9 + 7, none⟩ = some (.int .i64 l[j].oc) ∧ w.cell? ⟨b, off + j * 9 + 8, none⟩ = some (.int .i64 l[j].od)) := by
 obtain ⟨A, n, c, rfl, hl, h1, h2, h3⟩ := Rd.lst (k := 9) entC_len (by decide) h
 refine ⟨A, n, c, rfl, hl, h1, h2, fun hn => ?_⟩
 obtain ⟨b, off, rfl, hb, hc⟩ := h3 hn
 refine ⟨b, off, rfl, hb, fun j hj => ?_⟩
 obtain ⟨es, he, hr, hcell⟩ := hc j hj
 match es, he with
 | [u0, u1, u2, u3, u4, u5, u6, u7, u8], _ =>
  have h0' := hcell 0 (by omega)
  have h1' := hcell 1 (by omega)
  have h2' := hcell 2 (by omega)
  have h3' := hcell 3 (by omega)
  have h4' := hcell 4 (by omega)
  have h5' := hcell 5 (by omega)
  have h6' := hcell 6 (by omega)
  have h7' := hcell 7 (by omega)
  have h8' := hcell 8 (by omega)
  simp only [Nat.add_zero] at h0'
  have g0 : Rd w B (entC l[j]) [u0, u1, u2, u3, u4, u5, u6, u7, u8] := hr
  obtain ⟨e0, g1⟩ := Rd.int_cons g0
  obtain ⟨e1, g2⟩ := Rd.int_cons g1
  obtain ⟨e2, g3⟩ := Rd.int_cons g2
  obtain ⟨e3, g4⟩ := Rd.int_cons g3
  obtain ⟨e4, g5⟩ := Rd.int_cons g4
  obtain ⟨e5, g6⟩ := Rd.int_cons g5
  obtain ⟨e6, g7⟩ := Rd.int_cons g6
  obtain ⟨e7, g8⟩ := Rd.int_cons g7
  obtain ⟨e8, g9⟩ := Rd.int_cons g8
  subst e0
  subst e1
  subst e2
  subst e3
  subst e4
  subst e5
  subst e6
  subst e7
  subst e8
  exact ⟨h0', h1', h2', h3', h4', h5', h6', h7', h8'⟩
theorem Ow.ent {w : World} {x : EntM} {y0 y1 y2 y3 y4 y5 y6 y7 y8 : Value} {f2 : List Nat} (h : Ow w (entC x) [y0, y1, y2, y3, y4, y5, y6, y7, y8] f2) : y0 = .int .i64 x.idx ∧ y1 = .int .i64 x.tm ∧ y2 = .int .i64 x.cl ∧ y3 = .int .i64 x.sq ∧ y4 = .int .i64 x.kd ∧ y5 = .int .i64 x.oa ∧ y6 = .int .i64 x.ob ∧ y7 = .int .i64 x.oc ∧ y8 = .int .i64 x.od ∧ f2 = [] := by
 have g0 : Ow w (entC x) [y0, y1, y2, y3, y4, y5, y6, y7, y8] f2 := h
 obtain ⟨e0, g1⟩ := Ow.int_cons g0
 obtain ⟨e1, g2⟩ := Ow.int_cons g1
 obtain ⟨e2, g3⟩ := Ow.int_cons g2
 obtain ⟨e3, g4⟩ := Ow.int_cons g3
 obtain ⟨e4, g5⟩ := Ow.int_cons g4
 obtain ⟨e5, g6⟩ := Ow.int_cons g5
 obtain ⟨e6, g7⟩ := Ow.int_cons g6
 obtain ⟨e7, g8⟩ := Ow.int_cons g7
 obtain ⟨e8, g9⟩ := Ow.int_cons g8
 exact ⟨e0, e1, e2, e3, e4, e5, e6, e7, e8, Ow.nil_foot g9⟩
def inB (x lo hi : Int) : Bool := decide (lo ≤ x) && decide (x ≤ hi)
theorem inB_iff (x lo hi : Int) : inB x lo hi = true ↔ lo ≤ x ∧ x ≤ hi := by simp [inB]
def opB (o : OpM) : Bool :=
 if o.kind = 1 then inB o.a 0 9 && (inB o.b 0 999 && (decide (o.c = 0) && decide (o.d = 0)))
 else if o.kind = 2 then inB o.a 0 9 && (decide (o.b = 0) && (decide (o.c = 0) && decide (o.d = 0)))
 else if o.kind = 3 then inB o.a 1 20 && (inB o.b 0 1000000 && (inB o.c 0 9 && inB o.d 0 999))
 else if o.kind = 4 then inB o.a 1 20 && (inB o.b 0 1000 && (decide (o.c = 0) && decide (o.d = 0)))
 else if o.kind = 5 then inB o.a 1 1000 && (decide (o.b = 0) && (decide (o.c = 0) && decide (o.d = 0)))
 else false
def EntM.op (e : EntM) : OpM := ⟨e.kd, e.oa, e.ob, e.oc, e.od⟩
def askB (x : Int) : Bool := inB x 2 5
def entB (e : EntM) : Bool := inB e.idx 1 2000 && (inB e.tm 0 1000000 && (askB e.cl && (inB e.sq 1 2000 && opB e.op)))
def ent0 : EntM := ⟨0, 0, 0, 0, 0, 0, 0, 0, 0⟩
def opNs (o : OpM) : List Int := [o.kind, o.a, o.b, o.c, o.d]
def ofOp (r : List Int) : OpM := ⟨r.getD 0 0, r.getD 1 0, r.getD 2 0, r.getD 3 0, r.getD 4 0⟩
def entRowM (e : EntM) : List Int := if entB e = true then entNs e else []
def ofEnt (r : List Int) : EntM := ⟨r.getD 0 0, r.getD 1 0, r.getD 2 0, r.getD 3 0, r.getD 4 0, r.getD 5 0, r.getD 6 0, r.getD 7 0, r.getD 8 0⟩
def rowEntM (r : List Int) : EntM × Bool := if r.length = 9 then (if entB (ofEnt r) = true then (ofEnt r, true) else (ent0, false)) else (ent0, false)
def nextAt (l : List EntM) (j : Nat) : Bool := decide (j = 0) || (decide ((l.getD j ent0).idx = (l.getD (j - 1) ent0).idx + 1) && decide ((l.getD (j - 1) ent0).tm ≤ (l.getD j ent0).tm))
def entsAt (l : List EntM) (j : Nat) : Bool := entB (l.getD j ent0) && nextAt l j
def entsB (l : List EntM) : Bool := decide (l.length ≤ 2000) && (List.range l.length).all (entsAt l)
theorem egetD {l : List EntM} {j : Nat} (hj : j < l.length) : l.getD j ent0 = l[j] := by simp [List.getD, List.getElem?_eq_getElem hj]
theorem entB_iff (e : EntM) : entB e = true ↔ (1 ≤ e.idx ∧ e.idx ≤ 2000) ∧ (0 ≤ e.tm ∧ e.tm ≤ 1000000) ∧ (2 ≤ e.cl ∧ e.cl ≤ 5) ∧ (1 ≤ e.sq ∧ e.sq ≤ 2000) ∧ opB e.op = true := by
 unfold entB askB
 simp only [Bool.and_eq_true, inB_iff]
theorem entsB_iff (l : List EntM) : entsB l = true ↔ l.length ≤ 2000 ∧ ∀ j, j < l.length → entsAt l j = true := by
 unfold entsB
 simp only [Bool.and_eq_true, decide_eq_true_eq, List.all_eq_true, List.mem_range]
theorem entsB_long {l : List EntM} (h : 2000 < l.length) : entsB l = false := by
 unfold entsB
 rw [decide_eq_false (by omega), Bool.false_and]
theorem entsB_step {l : List EntM} {j : Nat} (hj : j < l.length) (h : entsAt l j = false) : entsB l = false := by
 rw [Bool.eq_false_iff]
 intro h2
 have := ((entsB_iff l).1 h2).2 j hj
 rw [h] at this
 cases this
theorem entsB_end {l : List EntM} (h : l.length ≤ 2000) (h2 : ∀ j, j < l.length → entsAt l j = true) : entsB l = true := (entsB_iff l).2 ⟨h, h2⟩
theorem nextAt_succ {l : List EntM} {k : Nat} (h : k + 1 < l.length) : nextAt l (k + 1) = (decide (l[k + 1].idx = l[k].idx + 1) && decide (l[k].tm ≤ l[k + 1].tm)) := by
 unfold nextAt
 rw [Nat.add_sub_cancel, egetD h, egetD (show k < l.length by omega), decide_eq_false (by omega), Bool.false_or]
theorem entsAt_eq {l : List EntM} {j : Nat} (hj : j < l.length) : entsAt l j = (entB l[j] && nextAt l j) := by
 unfold entsAt
 rw [egetD hj]
def mark0 : MarkM := ⟨0, 0, 0⟩
def markB (x : MarkM) : Bool := askB x.mc && (inB x.ms 1 2000 && inB x.mi 1 2000)
theorem mgetD {l : List MarkM} {j : Nat} (hj : j < l.length) : l.getD j mark0 = l[j] := by simp [List.getD, List.getElem?_eq_getElem hj]
theorem markB_iff (x : MarkM) : markB x = true ↔ (2 ≤ x.mc ∧ x.mc ≤ 5) ∧ (1 ≤ x.ms ∧ x.ms ≤ 2000) ∧ (1 ≤ x.mi ∧ x.mi ≤ 2000) := by
 unfold markB askB
 simp only [Bool.and_eq_true, inB_iff]
def freeTo (l : List MarkM) (j k : Nat) : Bool := (List.range k).all fun q => decide ((l.getD q mark0).mi ≠ (l.getD j mark0).mi)
def riseAt (l : List MarkM) (j : Nat) : Bool := decide (j = 0) || decide ((l.getD (j - 1) mark0).mc < (l.getD j mark0).mc)
def seenAt (l : List MarkM) (j : Nat) : Bool := (markB (l.getD j mark0) && riseAt l j) && freeTo l j j
def seenB (l : List MarkM) : Bool := decide (l.length ≤ 4) && (List.range l.length).all (seenAt l)
theorem seenB_iff (l : List MarkM) : seenB l = true ↔ l.length ≤ 4 ∧ ∀ j, j < l.length → seenAt l j = true := by
 unfold seenB
 simp only [Bool.and_eq_true, decide_eq_true_eq, List.all_eq_true, List.mem_range]
theorem seenB_step {l : List MarkM} {j : Nat} (hj : j < l.length) (h : seenAt l j = false) : seenB l = false := by
 rw [Bool.eq_false_iff]
 intro h2
 have := ((seenB_iff l).1 h2).2 j hj
 rw [h] at this
 cases this
theorem freeTo_iff (l : List MarkM) (j k : Nat) : freeTo l j k = true ↔ ∀ q, q < k → (l.getD q mark0).mi ≠ (l.getD j mark0).mi := by
 unfold freeTo
 simp only [List.all_eq_true, List.mem_range, decide_eq_true_eq]
theorem seen_mark {l : List MarkM} (h : seenB l = true) {j : Nat} (hj : j < l.length) : markB l[j] = true := by
 have h1 := ((seenB_iff l).1 h).2 j hj
 unfold seenAt at h1
 rw [mgetD hj, Bool.and_eq_true, Bool.and_eq_true] at h1
 exact h1.1.1
theorem seen_len {l : List MarkM} (h : seenB l = true) : l.length ≤ 4 := ((seenB_iff l).1 h).1
def findM (l : List MarkM) (c : Int) : MarkM := (l.find? fun x => x.mc == c).getD mark0
def markOf (l : List MarkM) (c : Int) : MarkM := if seenB l = true then findM l c else mark0
def freshB (l : List MarkM) (c s : Int) : Bool := seenB l && (askB c && (inB s 1 2000 && decide ((markOf l c).ms < s)))
def maxTo (l : List MarkM) (j : Nat) : Int := (l.take j).foldl (fun a x => max a x.mi) 0
def lastS (l : List MarkM) : Int := if seenB l = true then maxTo l l.length else 0
theorem maxTo_step {l : List MarkM} {j : Nat} (hj : j < l.length) : maxTo l (j + 1) = max (maxTo l j) l[j].mi := by
 unfold maxTo
 rw [List.take_succ_eq_append_getElem hj, List.foldl_append]
 rfl
theorem maxTo_zero (l : List MarkM) : maxTo l 0 = 0 := by
 unfold maxTo
 rw [List.take_zero]
 rfl
def insM (l : List MarkM) (x : MarkM) : List MarkM := (l.filter fun y => decide (y.mc < x.mc)) ++ x :: (l.filter fun y => decide (x.mc < y.mc))
def mayB (l : List MarkM) (e : EntM) : Bool := entB e && (freshB l e.cl e.sq && decide (lastS l < e.idx))
def markedM (l : List MarkM) (e : EntM) : List MarkM × Bool := if seenB l = true then (if mayB l e = true then (insM l ⟨e.cl, e.sq, e.idx⟩, true) else (l, false)) else ([], false)
def overM (l : List MarkM) (es : List EntM) : List MarkM := es.foldl (fun a e => insM a ⟨e.cl, e.sq, e.idx⟩) l
def overAt (l : List MarkM) (es : List EntM) (j : Nat) : Bool := mayB (overM l (es.take j)) (es.getD j ent0)
def overB (l : List MarkM) (es : List EntM) : Bool := (List.range es.length).all (overAt l es)
def seenOverM (l : List MarkM) (es : List EntM) : List MarkM × Bool := if seenB l = true then (if es.length ≤ 2000 then (if overB l es = true then (overM l es, true) else (l, false)) else (l, false)) else ([], false)
theorem overM_step {l : List MarkM} {es : List EntM} {j : Nat} (hj : j < es.length) : overM l (es.take (j + 1)) = insM (overM l (es.take j)) ⟨es[j].cl, es[j].sq, es[j].idx⟩ := by
 unfold overM
 rw [List.take_succ_eq_append_getElem hj, List.foldl_append]
 rfl
theorem seenAt_all {l : List MarkM} (h : seenB l = true) {j : Nat} (hj : j < l.length) : markB l[j] = true ∧ (∀ k, k + 1 = j → (l.getD k mark0).mc < l[j].mc) ∧ ∀ q, q < j → (l.getD q mark0).mi ≠ l[j].mi := by
 have h1 := ((seenB_iff l).1 h).2 j hj
 unfold seenAt riseAt at h1
 rw [mgetD hj, Bool.and_eq_true, Bool.and_eq_true, freeTo_iff, mgetD hj] at h1
 refine ⟨h1.1.1, fun k hk => ?_, h1.2⟩
 have h2 := h1.1.2
 subst hk
 rw [decide_eq_false (show ¬ k + 1 = 0 by omega), Bool.false_or, decide_eq_true_eq, Nat.add_sub_cancel] at h2
 exact h2
theorem seen_rise {l : List MarkM} (h : seenB l = true) : ∀ j (hj : j < l.length) q (hq : q < j), (l[q]'(by omega)).mc < l[j].mc := by
 intro j
 induction j with
 | zero => intro _ q hq; exact absurd hq (by omega)
 | succ k ih =>
  intro hj q hq
  have h1 := (seenAt_all h hj).2.1 k rfl
  rw [mgetD (show k < l.length by omega)] at h1
  by_cases e : q = k
  · subst e; exact h1
  · have h2 := ih (by omega) q (by omega)
    omega
theorem seen_pairs {l : List MarkM} (h : seenB l = true) : (∀ x ∈ l, markB x = true) ∧ l.Pairwise (fun a b => a.mc < b.mc) ∧ l.Pairwise (fun a b => a.mi ≠ b.mi) := by
 refine ⟨fun x hx => ?_, ?_, ?_⟩
 · obtain ⟨j, hj, rfl⟩ := List.getElem_of_mem hx
   exact seen_mark h hj
 · rw [List.pairwise_iff_getElem]
   intro i j hi hj hij
   exact seen_rise h j hj i hij
 · rw [List.pairwise_iff_getElem]
   intro i j hi hj hij
   have := (seenAt_all h hj).2.2 i hij
   rwa [mgetD hi] at this
theorem seen_of {l : List MarkM} (h1 : ∀ x ∈ l, markB x = true) (h2 : l.Pairwise (fun a b => a.mc < b.mc)) (h3 : l.Pairwise (fun a b => a.mi ≠ b.mi)) : seenB l = true := by
 rw [List.pairwise_iff_getElem] at h2 h3
 have hlow : ∀ j (hj : j < l.length), (j : Int) + 2 ≤ l[j].mc := by
  intro j
  induction j with
  | zero =>
   intro hj
   have := ((markB_iff _).1 (h1 _ (List.getElem_mem hj))).1
   simp
   omega
  | succ k ih =>
   intro hj
   have h4 := ih (by omega)
   have h5 := h2 k (k + 1) (by omega) hj (by omega)
   omega
 rw [seenB_iff]
 constructor
 · rcases Nat.lt_or_ge 4 l.length with h4 | h4
   · have h5 := hlow 4 h4
     have h6 := ((markB_iff _).1 (h1 _ (List.getElem_mem h4))).1
     omega
   · exact h4
 · intro j hj
   unfold seenAt riseAt
   rw [mgetD hj, h1 _ (List.getElem_mem hj), Bool.true_and, Bool.and_eq_true, freeTo_iff]
   refine ⟨?_, fun q hq => ?_⟩
   · rcases Nat.eq_zero_or_pos j with h0 | h0
     · rw [decide_eq_true h0, Bool.true_or]
     · rw [mgetD (show j - 1 < l.length by omega), decide_eq_true (h2 (j - 1) j (by omega) hj (by omega)), Bool.or_true]
   · rw [mgetD (show q < l.length by omega), mgetD hj]
     exact h3 q j (by omega) hj hq
theorem maxTo_le (l : List MarkM) : ∀ j, j ≤ l.length → ∀ q (_hq : q < j) (hl : q < l.length), l[q].mi ≤ maxTo l j := by
 intro j
 induction j with
 | zero => intro _ q hq; exact absurd hq (by omega)
 | succ k ih =>
  intro hk q hq hl
  rw [maxTo_step (show k < l.length by omega)]
  by_cases e : q = k
  · subst e; omega
  · have := ih (by omega) q (by omega) hl
    omega
theorem lastS_ge {l : List MarkM} (h : seenB l = true) {x : MarkM} (hx : x ∈ l) : x.mi ≤ lastS l := by
 unfold lastS
 rw [if_pos h]
 obtain ⟨j, hj, rfl⟩ := List.getElem_of_mem hx
 exact maxTo_le l l.length (Nat.le_refl _) j hj hj
theorem insM_ok {l : List MarkM} {x : MarkM} (h : seenB l = true) (hx : markB x = true) (hm : lastS l < x.mi) : seenB (insM l x) = true := by
 obtain ⟨h1, h2, h3⟩ := seen_pairs h
 have hne : ∀ y ∈ l, ∀ z ∈ l, y ≠ z → y.mi ≠ z.mi := by
  intro y hy z hz hyz
  obtain ⟨i, hi, rfl⟩ := List.getElem_of_mem hy
  obtain ⟨j, hj, rfl⟩ := List.getElem_of_mem hz
  rw [List.pairwise_iff_getElem] at h3
  rcases Nat.lt_trichotomy i j with h4 | h4 | h4
  · exact h3 i j hi hj h4
  · subst h4; exact absurd rfl hyz
  · exact (h3 j i hj hi h4).symm
 unfold insM
 refine seen_of (fun y hy => ?_) ?_ ?_
 · rcases List.mem_append.1 hy with h4 | h4
   · exact h1 y (List.mem_filter.1 h4).1
   · rcases List.mem_cons.1 h4 with rfl | h4
     · exact hx
     · exact h1 y (List.mem_filter.1 h4).1
 · rw [List.pairwise_append, List.pairwise_cons]
   refine ⟨h2.filter _, ⟨fun z hz => by simpa using (List.mem_filter.1 hz).2, h2.filter _⟩, fun y hy z hz => ?_⟩
   have hy2 : y.mc < x.mc := by simpa using (List.mem_filter.1 hy).2
   rcases List.mem_cons.1 hz with rfl | hz
   · exact hy2
   · have hz2 : x.mc < z.mc := by simpa using (List.mem_filter.1 hz).2
     omega
 · rw [List.pairwise_append, List.pairwise_cons]
   refine ⟨h3.filter _, ⟨fun z hz => ?_, h3.filter _⟩, fun y hy z hz => ?_⟩
   · have := lastS_ge h (List.mem_filter.1 hz).1
     omega
   · have hy2 : y.mc < x.mc := by simpa using (List.mem_filter.1 hy).2
     have hy1 := (List.mem_filter.1 hy).1
     rcases List.mem_cons.1 hz with rfl | hz
     · have := lastS_ge h hy1
       omega
     · have hz2 : x.mc < z.mc := by simpa using (List.mem_filter.1 hz).2
       refine hne y hy1 z (List.mem_filter.1 hz).1 (fun e => ?_)
       rw [e] at hy2
       omega
theorem mayB_iff (l : List MarkM) (e : EntM) : mayB l e = true ↔ entB e = true ∧ freshB l e.cl e.sq = true ∧ lastS l < e.idx := by
 unfold mayB
 simp only [Bool.and_eq_true, decide_eq_true_eq]
theorem marked_ok {l : List MarkM} {e : EntM} (h : seenB l = true) (hm : mayB l e = true) : seenB (insM l ⟨e.cl, e.sq, e.idx⟩) = true := by
 obtain ⟨h1, _, h3⟩ := (mayB_iff l e).1 hm
 have h4 := (entB_iff e).1 h1
 exact insM_ok h ((markB_iff _).2 ⟨h4.2.2.1, h4.2.2.2.1, h4.1⟩) h3
theorem overB_iff (l : List MarkM) (es : List EntM) : overB l es = true ↔ ∀ j, j < es.length → overAt l es j = true := by
 unfold overB
 simp only [List.all_eq_true, List.mem_range]
theorem overB_step {l : List MarkM} {es : List EntM} {j : Nat} (hj : j < es.length) (h : overAt l es j = false) : overB l es = false := by
 rw [Bool.eq_false_iff]
 intro h2
 have := (overB_iff l es).1 h2 j hj
 rw [h] at this
 cases this
theorem over_ok {l : List MarkM} {es : List EntM} (h : seenB l = true) : ∀ j, j ≤ es.length → (∀ q, q < j → overAt l es q = true) → seenB (overM l (es.take j)) = true := by
 intro j
 induction j with
 | zero => intro _ _; rw [List.take_zero]; exact h
 | succ k ih =>
  intro hk hall
  have h1 := ih (by omega) fun q hq => hall q (by omega)
  have h2 := hall k (by omega)
  unfold overAt at h2
  rw [egetD (show k < es.length by omega)] at h2
  rw [overM_step (show k < es.length by omega)]
  exact marked_ok h1 h2
end Go.Proofs.YtmjifhjhialcbaaGreat
namespace Go.Proofs.YtmjifhjhialcbaaGreat
set_option maxRecDepth 100000
set_option linter.unusedVariables false
open Go.RowKit
def wrC (p : Int × List Int) : List Dat := [.int p.1, rowD p.2]
def keptD (l : List (List Int)) : Dat := lst 39 1 rowC l
def waitD (l : List (Int × List Int)) : Dat := lst 141 2 wrC l
theorem wrC_len (p : Int × List Int) : (wrC p).length = 2 := rfl
structure DiskM where
 kept : List (List Int)
 wait : List (Int × List Int)
def DiskM.cells (d : DiskM) : List Dat := [keptD d.kept, waitD d.wait]
def rowsSz (l : List (List Int)) : Nat := l.length + (l.map List.length).sum
def wrSz (p : Int × List Int) : Nat := p.2.length
def waitSz (l : List (Int × List Int)) : Nat := l.length + (l.map wrSz).sum
def DiskM.sz (d : DiskM) : Nat := rowsSz d.kept + waitSz d.wait
section
variable {w : World} {B : Nat} {v0 v1 : Value} {d : DiskM}
theorem Rd.kept {l : List (List Int)} (h : Rd w B [keptD l] [v0]) : ∃ A n c, v0 = .slice A n c ∧ l.length = n ∧ n ≤ c ∧ c ≤ maxLen ∧
    (0 < n → ∃ b off, A = some ⟨b, off, none⟩ ∧ b < B ∧ ∀ j (hj : j < l.length), ∃ A' m c', w.cell? ⟨b, off + j, none⟩ = some (.slice A' m c') ∧ IRow w B A' m l[j] ∧ m ≤ c' ∧ c' ≤ maxLen) := by
 obtain ⟨A, n, c, rfl, hl, h1, h2, h3⟩ := Rd.lst (k := 1) rowC_len Nat.one_pos h
 refine ⟨A, n, c, rfl, hl, h1, h2, fun hn => ?_⟩
 obtain ⟨b, off, rfl, hb, hc⟩ := h3 hn
 refine ⟨b, off, rfl, hb, fun j hj => ?_⟩
 obtain ⟨es, he, hr, hcell⟩ := hc j hj
 match es, he with
 | [u], _ =>
  obtain ⟨A', m, c', rfl, hi, hm⟩ := hr.irow
  have := hcell 0 (by omega)
  rw [Nat.mul_one, Nat.add_zero] at this
  exact ⟨A', m, c', this, hi, hm⟩
theorem Rd.wait {l : List (Int × List Int)} (h : Rd w B [waitD l] [v0]) : ∃ A n c, v0 = .slice A n c ∧ l.length = n ∧ n ≤ c ∧ c ≤ maxLen ∧
    (0 < n → ∃ b off, A = some ⟨b, off, none⟩ ∧ b < B ∧ ∀ j (hj : j < l.length), ∃ A' m c', w.cell? ⟨b, off + j * 2, none⟩ = some (.int .i64 l[j].1) ∧ w.cell? ⟨b, off + j * 2 + 1, none⟩ = some (.slice A' m c') ∧ IRow w B A' m l[j].2 ∧ m ≤ c' ∧ c' ≤ maxLen) := by
 obtain ⟨A, n, c, rfl, hl, h1, h2, h3⟩ := Rd.lst (k := 2) wrC_len (by decide) h
 refine ⟨A, n, c, rfl, hl, h1, h2, fun hn => ?_⟩
 obtain ⟨b, off, rfl, hb, hc⟩ := h3 hn
 refine ⟨b, off, rfl, hb, fun j hj => ?_⟩
 obtain ⟨es, he, hr, hcell⟩ := hc j hj
 match es, he with
 | [u0, u1], _ =>
  obtain ⟨x0, x1, e, r0, r1⟩ := hr.two
  injection e with e0 e1
  injection e1 with e1 _
  subst e0 e1
  obtain ⟨A', m, c', rfl, hi, hm⟩ := r1.irow
  have h0 := hcell 0 (by omega)
  have h1 := hcell 1 (by omega)
  rw [Nat.add_zero] at h0
  rw [r0.one] at h0
  exact ⟨A', m, c', h0, h1, hi, hm⟩
end
end Go.Proofs.YtmjifhjhialcbaaGreat
namespace Go.Proofs.YtmjifhjhialcbaaGreat
set_option maxRecDepth 100000
open Go.RowKit
theorem Rd.disk {w : World} {B : Nat} {d : DiskM} {v0 v1 : Value} (h : Rd w B d.cells [v0, v1]) : ∃ A n c A' n' c', v0 = .slice A n c ∧ v1 = .slice A' n' c' ∧ Rd w B [keptD d.kept] [.slice A n c] ∧ Rd w B [waitD d.wait] [.slice A' n' c'] := by
 obtain ⟨u0, u1, e, h0, h1⟩ := Rd.two h
 injection e with e0 e1
 injection e1 with e1 _
 subst e0 e1
 obtain ⟨A, n, c, rfl, _⟩ := h0.kept
 obtain ⟨A', n', c', rfl, _⟩ := h1.wait
 exact ⟨A, n, c, A', n', c', rfl, rfl, h0, h1⟩
end Go.Proofs.YtmjifhjhialcbaaGreat
namespace Go.Proofs.YtmjifhjhialcbaaGreat
set_option maxRecDepth 100000
open Go.RowKit
theorem infoWrite : (Tryz.prog.info? 141).map (fun i => (i.zero, i.size, i.bytes)) = some (some (.agg #[.int .i64 0, .slice none 0 0]), 2, 32) := by kernel_rfl
theorem ow_zero_write (w : World) : Ow w (wrC (0, [])) [.int .i64 0, .slice none 0 0] [] := .int (ow_nil_row w)
end Go.Proofs.YtmjifhjhialcbaaGreat
namespace Go.Proofs.YtmjifhjhialcbaaGreat
set_option maxRecDepth 100000
open Go.RowKit
/-! ### Rows -/
end Go.Proofs.YtmjifhjhialcbaaGreat
namespace Go.Proofs.YtmjifhjhialcbaaGreat
set_option maxRecDepth 100000
open Go.RowKit
/-! ### Counting -/
end Go.Proofs.YtmjifhjhialcbaaGreat
namespace Go.Proofs.YtmjifhjhialcbaaGreat
set_option maxRecDepth 100000
open Go.RowKit
def MadeD (w : World) (d : DiskM) (e : Ending) (w' : World) : Prop :=
 ∃ A n c A' n' c', e = .returned (.agg #[.slice A n c, .slice A' n' c']) ∧ Has w' w.heap.size d.cells [.slice A n c, .slice A' n' c'] ∧ Below w.heap.size w w'
end Go.Proofs.YtmjifhjhialcbaaGreat
namespace Go.Proofs.YtmjifhjhialcbaaGreat
set_option maxRecDepth 100000
open Go.RowKit
end Go.Proofs.YtmjifhjhialcbaaGreat
namespace Go.Proofs.YtmjifhjhialcbaaGreat
set_option maxRecDepth 100000
open Go.RowKit
def hasS (d : DiskM) (i : Int) : Bool := decide (0 ≤ i) && decide (i ≤ (d.kept.length : Int) - 1)
def wrOk (d : DiskM) (p : Int × List Int) : Bool := hasS d p.1 && rowOk p.2
def diskOk (d : DiskM) : Bool := decide (1 ≤ d.kept.length) && (decide (d.kept.length ≤ 40) && (decide (d.wait.length ≤ 60) && (d.kept.all rowOk && d.wait.all (wrOk d))))
def zeroD : DiskM := ⟨[], []⟩
def secOk (n : Int) : Bool := decide (1 ≤ n) && decide (n ≤ 40)
def newDisk (n : Int) : DiskM := if secOk n = true then ⟨List.replicate n.toNat [], []⟩ else zeroD
def lastTo (l : List (Int × List Int)) (i : Int) : Nat → Option (List Int)
 | 0 => none
 | j + 1 => if (l.getD j (0, [])).1 = i then some (l.getD j (0, [])).2 else lastTo l i j
def readAt (d : DiskM) (i : Int) : List Int × Bool :=
 if diskOk d = true ∧ hasS d i = true then ((lastTo d.wait i d.wait.length).getD (d.kept.getD i.toNat []), true) else ([], false)
def wrote (d : DiskM) (i : Int) (r : List Int) : DiskM × Bool :=
 if diskOk d = true then (if hasS d i = true ∧ rowOk r = true ∧ d.wait.length < 60 then (⟨d.kept, d.wait ++ [(i, r)]⟩, true) else (d, false)) else (zeroD, false)
def torn (r old : List Int) : List Int := r.take (r.length / 2) ++ old.drop (r.length / 2)
def fell (all : Bool) (fate : Int) (k : List (List Int)) (p : Int × List Int) : List (List Int) :=
 if all = true ∨ fate = 1 then k.set p.1.toNat p.2 else if fate = 2 then k.set p.1.toNat (torn p.2 (k.getD p.1.toNat [])) else k
def fellTo (all : Bool) (fs : List Int) (k : List (List Int)) (l : List (Int × List Int)) : Nat → List (List Int)
 | 0 => k
 | j + 1 => fell all (fs.getD j 0) (fellTo all fs k l j) (l.getD j (0, []))
def fall (all : Bool) (d : DiskM) (fs : List Int) : DiskM := ⟨fellTo all fs d.kept d.wait d.wait.length, []⟩
def synced (d : DiskM) : DiskM := if diskOk d = true then fall true d [] else zeroD
def fallen (d : DiskM) (fs : List Int) : DiskM := if diskOk d = true then fall false d fs else zeroD
def rotted (d : DiskM) (at_ i n : Int) : DiskM × Bool :=
 if diskOk d = true then (if hasS d at_ = true ∧ (0 ≤ i ∧ i < ((d.kept.getD at_.toNat []).length : Int)) ∧ (0 ≤ n ∧ n ≤ 1000000000) then (⟨d.kept.set at_.toNat ((d.kept.getD at_.toNat []).set i.toNat n), d.wait⟩, true) else (d, false)) else (zeroD, false)
def safeIn (d : DiskM) : Bool := diskOk d && decide (d.wait.length = 0)
section
variable {α : Type} {p : α → Bool} {l : List α} {j : Nat}
theorem all_step (hj : j < l.length) (h : (l.take j).all p = true) (hp : p l[j] = true) : (l.take (j + 1)).all p = true := by
 rw [List.take_succ_eq_append_getElem hj, List.all_append, h]
 simp [hp]
theorem all_bad (hj : j < l.length) (hp : p l[j] = false) : l.all p = false := by
 rw [List.all_eq_false]
 exact ⟨l[j], List.getElem_mem hj, by simp [hp]⟩
end
theorem diskOk_iff {d : DiskM} : diskOk d = true ↔ (1 ≤ d.kept.length ∧ d.kept.length ≤ 40) ∧ d.wait.length ≤ 60 ∧ d.kept.all rowOk = true ∧ d.wait.all (wrOk d) = true := by
 unfold diskOk
 simp only [Bool.and_eq_true, decide_eq_true_eq]
 constructor
 · rintro ⟨a, b, c, e, f⟩; exact ⟨⟨a, b⟩, c, e, f⟩
 · rintro ⟨⟨a, b⟩, c, e, f⟩; exact ⟨a, b, c, e, f⟩
theorem diskOk_no {d : DiskM} (h : ¬ ((1 ≤ d.kept.length ∧ d.kept.length ≤ 40) ∧ d.wait.length ≤ 60 ∧ d.kept.all rowOk = true ∧ d.wait.all (wrOk d) = true)) : diskOk d = false := by
 cases hd : diskOk d
 · rfl
 · exact absurd (diskOk_iff.1 hd) h
end Go.Proofs.YtmjifhjhialcbaaGreat
namespace Go.Proofs.YtmjifhjhialcbaaGreat
set_option maxRecDepth 100000
open Go.RowKit
theorem rowOk_len {r : List Int} (h : rowOk r = true) : r.length ≤ 48 := by
 rcases Nat.lt_or_ge 48 r.length with h1 | h1
 · rw [rowOk_long h1] at h; cases h
 · exact h1
theorem fell_len (all : Bool) (fate : Int) (k : List (List Int)) (p : Int × List Int) : (fell all fate k p).length = k.length := by
 unfold fell
 split
 · simp
 · split
   · simp
   · rfl
theorem fellTo_len (all : Bool) (fs : List Int) (k : List (List Int)) (l : List (Int × List Int)) (j : Nat) : (fellTo all fs k l j).length = k.length := by
 induction j with
 | zero => rfl
 | succ j ih => rw [fellTo, fell_len, ih]
theorem torn_len {r old : List Int} (h1 : r.length ≤ 48) (h2 : old.length ≤ 48) : (torn r old).length ≤ 48 := by
 unfold torn
 rw [List.length_append, List.length_take, List.length_drop]
 omega
theorem getD_len {k : List (List Int)} (h : ∀ r ∈ k, r.length ≤ 48) (i : Nat) : (k.getD i []).length ≤ 48 := by
 rcases Nat.lt_or_ge i k.length with h1 | h1
 · simp only [List.getD, List.getElem?_eq_getElem h1, Option.getD_some]
   exact h _ (List.getElem_mem h1)
 · simp [List.getD, List.getElem?_eq_none h1]
theorem mem_set_len {k : List (List Int)} {i : Nat} {x : List Int} (h : ∀ r ∈ k, r.length ≤ 48) (hx : x.length ≤ 48) : ∀ r ∈ k.set i x, r.length ≤ 48 := by
 intro r hr
 rcases List.mem_or_eq_of_mem_set hr with h1 | h1
 · exact h r h1
 · rw [h1]; exact hx
theorem fellTo_rows {all : Bool} {fs : List Int} {k : List (List Int)} {l : List (Int × List Int)} (hk : ∀ r ∈ k, r.length ≤ 48) (hl : ∀ p ∈ l, p.2.length ≤ 48) (j : Nat) : ∀ r ∈ fellTo all fs k l j, r.length ≤ 48 := by
 induction j with
 | zero => exact hk
 | succ j ih =>
  have hp : (l.getD j (0, [])).2.length ≤ 48 := by
   rcases Nat.lt_or_ge j l.length with h1 | h1
   · simp only [List.getD, List.getElem?_eq_getElem h1, Option.getD_some]
     exact hl _ (List.getElem_mem h1)
   · simp [List.getD, List.getElem?_eq_none h1]
  rw [fellTo]
  unfold fell
  split
  · exact mem_set_len ih hp
  · split
    · exact mem_set_len ih (torn_len hp (getD_len ih _))
    · exact ih
theorem ok_kept_len {d : DiskM} (h : diskOk d = true) : ∀ r ∈ d.kept, r.length ≤ 48 := fun r hr => rowOk_len (List.all_eq_true.1 (diskOk_iff.1 h).2.2.1 r hr)
theorem ok_wait {d : DiskM} (h : diskOk d = true) : ∀ p ∈ d.wait, (0 ≤ p.1 ∧ p.1 < (d.kept.length : Int)) ∧ p.2.length ≤ 48 := fun p hp => by
 have := List.all_eq_true.1 (diskOk_iff.1 h).2.2.2 p hp
 unfold wrOk hasS at this
 simp only [Bool.and_eq_true, decide_eq_true_eq] at this
 exact ⟨⟨this.1.1, by omega⟩, rowOk_len this.2⟩
theorem sum_len_le {k : List (List Int)} (h : ∀ r ∈ k, r.length ≤ 48) : (k.map List.length).sum ≤ 48 * k.length := by
 induction k with
 | nil => simp
 | cons r k ih =>
  have h1 := h r (by simp)
  have h2 := ih (fun x hx => h x (by simp [hx]))
  simp only [List.map_cons, List.sum_cons, List.length_cons]
  omega
theorem zero_sz : zeroD.sz ≤ 1048577 := by decide
end Go.Proofs.YtmjifhjhialcbaaGreat
namespace Go.Proofs.YtmjifhjhialcbaaGreat
set_option maxRecDepth 100000
open Go.RowKit
theorem rows_sz_le {l : List (List Int)} (h : ∀ r ∈ l, r.length ≤ 48) (hl : l.length ≤ 40) : rowsSz l ≤ 1960 := by
 have := sum_len_le h
 unfold rowsSz
 omega
theorem wait_sz_le {l : List (Int × List Int)} (h : ∀ p ∈ l, p.2.length ≤ 48) (hl : l.length ≤ 60) : waitSz l ≤ 2940 := by
 have h1 : (l.map wrSz).sum ≤ 48 * l.length := by
  clear hl
  induction l with
  | nil => simp
  | cons p l ih =>
   have h1 := h p (by simp)
   have h2 := ih (fun q hq => h q (by simp [hq]))
   simp only [List.map_cons, List.sum_cons, List.length_cons]
   have h3 : wrSz p = p.2.length := rfl
   omega
 unfold waitSz
 omega
theorem lastTo_len {l : List (Int × List Int)} {i : Int} (h : ∀ p ∈ l, p.2.length ≤ 48) : ∀ (j : Nat) (r : List Int), lastTo l i j = some r → r.length ≤ 48
 | 0, r, e => by cases e
 | j + 1, r, e => by
  rw [lastTo] at e
  split at e
  · injection e with e
    rw [← e]
    rcases Nat.lt_or_ge j l.length with h1 | h1
    · simp only [List.getD, List.getElem?_eq_getElem h1, Option.getD_some]
      exact h _ (List.getElem_mem h1)
    · simp [List.getD, List.getElem?_eq_none h1]
  · exact lastTo_len h j r e
theorem readAt_sz (d : DiskM) (i : Int) (_h : d.sz ≤ 1048576) : (readAt d i).1.length ≤ 1048577 := by
 unfold readAt
 split
 · rename_i hc
   show ((lastTo d.wait i d.wait.length).getD (d.kept.getD i.toNat [])).length ≤ 1048577
   cases hl : lastTo d.wait i d.wait.length with
   | none => have := getD_len (ok_kept_len hc.1) i.toNat; simp only [Option.getD_none]; omega
   | some r => have := lastTo_len (fun p hp => (ok_wait hc.1 p hp).2) _ r hl; simp only [Option.getD_some]; omega
 · simp
theorem wrote_sz (d : DiskM) (i : Int) (r : List Int) (h : d.sz ≤ 1048576) (_h2 : r.length ≤ 1048576) : (wrote d i r).1.sz ≤ 1048577 := by
 unfold wrote
 split
 · rename_i hd
   split
   · rename_i hc
     have h1 := rows_sz_le (ok_kept_len hd) (diskOk_iff.1 hd).1.2
     have h2 := wait_sz_le (l := d.wait ++ [(i, r)]) (fun p hp => by
      rcases List.mem_append.1 hp with h9 | h9
      · exact (ok_wait hd p h9).2
      · have : p = (i, r) := by simpa using h9
        rw [this]
        exact rowOk_len hc.2.1) (by simp; omega)
     show rowsSz d.kept + waitSz (d.wait ++ [(i, r)]) ≤ 1048577
     omega
   · show d.sz ≤ 1048577
     omega
 · exact zero_sz
end Go.Proofs.YtmjifhjhialcbaaGreat
namespace Go.Proofs.YtmjifhjhialcbaaGreat
set_option maxRecDepth 100000
open Go.RowKit
theorem rowOk_iff {r : List Int} : rowOk r = true ↔ r.length ≤ 48 ∧ ∀ x ∈ r, numOk x = true := by
 unfold rowOk
 simp [List.all_eq_true]
theorem torn_ok {r old : List Int} (h1 : rowOk r = true) (h2 : rowOk old = true) : rowOk (torn r old) = true := by
 obtain ⟨a1, b1⟩ := rowOk_iff.1 h1
 obtain ⟨a2, b2⟩ := rowOk_iff.1 h2
 refine rowOk_iff.2 ⟨torn_len a1 a2, fun x hx => ?_⟩
 unfold torn at hx
 rcases List.mem_append.1 hx with h | h
 · exact b1 x (List.mem_of_mem_take h)
 · exact b2 x (List.mem_of_mem_drop h)
theorem nil_ok : rowOk [] = true := rowOk_iff.2 ⟨by simp, fun x hx => by cases hx⟩
theorem getD_ok {k : List (List Int)} (h : ∀ r ∈ k, rowOk r = true) (i : Nat) : rowOk (k.getD i []) = true := by
 rcases Nat.lt_or_ge i k.length with h1 | h1
 · simp only [List.getD, List.getElem?_eq_getElem h1, Option.getD_some]
   exact h _ (List.getElem_mem h1)
 · simp only [List.getD, List.getElem?_eq_none h1, Option.getD_none]
   exact nil_ok
theorem mem_set_ok {k : List (List Int)} {i : Nat} {x : List Int} (h : ∀ r ∈ k, rowOk r = true) (hx : rowOk x = true) : ∀ r ∈ k.set i x, rowOk r = true := by
 intro r hr
 rcases List.mem_or_eq_of_mem_set hr with h1 | h1
 · exact h r h1
 · rw [h1]; exact hx
theorem fellTo_ok {all : Bool} {fs : List Int} {k : List (List Int)} {l : List (Int × List Int)} (hk : ∀ r ∈ k, rowOk r = true) (hl : ∀ p ∈ l, rowOk p.2 = true) (j : Nat) : ∀ r ∈ fellTo all fs k l j, rowOk r = true := by
 induction j with
 | zero => exact hk
 | succ j ih =>
  have hp : rowOk (l.getD j (0, [])).2 = true := by
   rcases Nat.lt_or_ge j l.length with h1 | h1
   · simp only [List.getD, List.getElem?_eq_getElem h1, Option.getD_some]
     exact hl _ (List.getElem_mem h1)
   · simp only [List.getD, List.getElem?_eq_none h1, Option.getD_none]
     exact nil_ok
  rw [fellTo]
  unfold fell
  split
  · exact mem_set_ok ih hp
  · split
    · exact mem_set_ok ih (torn_ok hp (getD_ok ih _))
    · exact ih
theorem ok_rows {d : DiskM} (h : diskOk d = true) : ∀ r ∈ d.kept, rowOk r = true := List.all_eq_true.1 (diskOk_iff.1 h).2.2.1
theorem ok_writes {d : DiskM} (h : diskOk d = true) : ∀ p ∈ d.wait, rowOk p.2 = true := fun p hp => by
 have := List.all_eq_true.1 (diskOk_iff.1 h).2.2.2 p hp
 unfold wrOk at this
 simp only [Bool.and_eq_true] at this
 exact this.2
theorem fall_ok {d : DiskM} (h : diskOk d = true) (all : Bool) (fs : List Int) : diskOk (fall all d fs) = true := by
 have hl := fellTo_len all fs d.kept d.wait d.wait.length
 obtain ⟨⟨h1, h2⟩, _⟩ := diskOk_iff.1 h
 refine diskOk_iff.2 ⟨⟨?_, ?_⟩, Nat.zero_le _, List.all_eq_true.2 (fellTo_ok (ok_rows h) (ok_writes h) _), rfl⟩
 · show 1 ≤ (fellTo all fs d.kept d.wait d.wait.length).length
   omega
 · show (fellTo all fs d.kept d.wait d.wait.length).length ≤ 40
   omega
theorem synced_ok {d : DiskM} (h : diskOk d = true) : diskOk (synced d) = true := by
 unfold synced
 rw [if_pos h]
 exact fall_ok h _ _
theorem fallen_ok {d : DiskM} (h : diskOk d = true) (fs : List Int) : diskOk (fallen d fs) = true := by
 unfold fallen
 rw [if_pos h]
 exact fall_ok h _ _
theorem wrote_ok {d : DiskM} (h : diskOk d = true) (i : Int) (r : List Int) : diskOk (wrote d i r).1 = true := by
 unfold wrote
 rw [if_pos h]
 split
 · rename_i hc
   obtain ⟨h1, h2, h3, h4⟩ := diskOk_iff.1 h
   refine diskOk_iff.2 ⟨h1, ?_, h3, ?_⟩
   · show (d.wait ++ [(i, r)]).length ≤ 60
     simp
     omega
   · show (d.wait ++ [(i, r)]).all (wrOk d) = true
     rw [List.all_append, h4]
     simp [wrOk, hc.1, hc.2.1]
 · exact h
end Go.Proofs.YtmjifhjhialcbaaGreat

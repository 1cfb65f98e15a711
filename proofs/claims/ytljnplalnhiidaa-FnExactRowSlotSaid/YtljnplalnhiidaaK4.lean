/- Parts of my texts: Ent EntM MarkM MarkN. -/
import Derived.Test.YtljnplalnhiidaaK2
namespace Go.Proofs.Ytljnplalnhiidaa
set_option maxRecDepth 100000
set_option linter.unusedVariables false
open Go.RowKit
structure OpM where
 kind : Int
 a : Int
 b : Int
 c : Int
 d : Int
def opC (x : OpM) : List Dat := [.int x.kind, .int x.a, .int x.b, .int x.c, .int x.d]
set_option maxHeartbeats 1600000 in
theorem toOp_any (x0 x1 x2 x3 x4 : Int) (w : World) :
    Calls Try.prog 50 #[.agg #[.int .i64 x0, .int .i64 x1, .int .i64 x2, .int .i64 x3, .int .i64 x4]] w fun e w' => e = .returned (.agg #[.int .i64 x0, .int .i64 x1, .int .i64 x2, .int .i64 x3, .int .i64 x4]) ∧ Below w.heap.size w w' := by
 have C := jd ((((Below.refl w.heap.size w).alloc (Nat.le_refl _) (.cells #[.int .i64 x0, .int .i64 x1, .int .i64 x2, .int .i64 x3, .int .i64 x4] 43)).alloc (by simp) (.cells #[.int .i64 x0, .int .i64 x1, .int .i64 x2, .int .i64 x3, .int .i64 x4] 47)).alloc (by simp; omega) (.cells #[.int .i64 x0, .int .i64 x1, .int .i64 x2, .int .i64 x3, .int .i64 x4] 47))
 go_enter Try.func50, Try.ntmps50
 go_wp2
 exact bodyPost_ret (v := .agg #[.int .i64 x0, .int .i64 x1, .int .i64 x2, .int .i64 x3, .int .i64 x4]) (by simp [results, Try.results50, go_sem]) rfl ⟨rfl, C.out⟩
set_option maxHeartbeats 1600000 in
theorem eqOp_one (x0 x1 x2 x3 x4 : Int) (w : World) :
    Calls Try.prog 55 #[.agg #[.int .i64 x0, .int .i64 x1, .int .i64 x2, .int .i64 x3, .int .i64 x4], .agg #[.int .i64 x0, .int .i64 x1, .int .i64 x2, .int .i64 x3, .int .i64 x4]] w fun e w' => e = .returned (.bool true) ∧ Below w.heap.size w w' := by
 have b0 : Below w.heap.size w ((w.alloc (.cells #[.int .i64 x0, .int .i64 x1, .int .i64 x2, .int .i64 x3, .int .i64 x4] 47)).alloc (.cells #[.int .i64 x0, .int .i64 x1, .int .i64 x2, .int .i64 x3, .int .i64 x4] 47)) :=
  ((Below.refl _ w).alloc (Nat.le_refl _) _).alloc (by simp) _
 have B0 := jd b0
 clear b0
 go_enter Try.func55, Try.ntmps55
 go_wp2
 go_ret
 exact ⟨rfl, B0.out⟩
structure EntM where
 idx : Int
 tm : Int
 cl : Int
 sq : Int
 kd : Int
 oa : Int
 ob : Int
 oc : Int
 od : Int
def entC (x : EntM) : List Dat := [.int x.idx, .int x.tm, .int x.cl, .int x.sq, .int x.kd, .int x.oa, .int x.ob, .int x.oc, .int x.od]
def entNs (x : EntM) : List Int := x.idx :: x.tm :: x.cl :: x.sq :: x.kd :: x.oa :: x.ob :: x.oc :: x.od :: []
set_option maxHeartbeats 3200000 in
theorem toEntry_any (x0 x1 x2 x3 x4 x5 x6 x7 x8 : Int) (w : World) :
    Calls Try.prog 25 #[.agg #[.int .i64 x0, .int .i64 x1, .int .i64 x2, .int .i64 x3, .int .i64 x4, .int .i64 x5, .int .i64 x6, .int .i64 x7, .int .i64 x8]] w fun e w' => e = .returned (.agg #[.int .i64 x0, .int .i64 x1, .int .i64 x2, .int .i64 x3, .int .i64 x4, .int .i64 x5, .int .i64 x6, .int .i64 x7, .int .i64 x8]) ∧ Below w.heap.size w w' := by
 have S := Sep.nil w w.heap.size
 have c := Below.refl w.heap.size w
 replace S := S.boxAt c.size (w.heap.size) rfl #[.int .i64 x0, .int .i64 x1, .int .i64 x2, .int .i64 x3, .int .i64 x4, .int .i64 x5, .int .i64 x6, .int .i64 x7, .int .i64 x8] 45
 replace c := al c S
 replace S := S.boxAt c.size (w.heap.size + 1) (by simp) #[.int .i64 0, .int .i64 0, .int .i64 0, .int .i64 0, .int .i64 0, .int .i64 0, .int .i64 0, .int .i64 0, .int .i64 0] 49
 replace c := al c S
 replace S := S.boxAt c.size (w.heap.size + 1 + 1) (by simp) #[.int .i64 x0, .int .i64 x1, .int .i64 x2, .int .i64 x3, .int .i64 0, .int .i64 0, .int .i64 0, .int .i64 0, .int .i64 0] 49
 replace c := al c S
 go_enter Try.func25, Try.ntmps25
 have f0 := lk S 2 4 rfl rfl
 have f1 := lk S 2 5 rfl rfl
 have f2 := lk S 2 6 rfl rfl
 have f3 := lk S 2 7 rfl rfl
 have f4 := lk S 2 8 rfl rfl
 go_wp2_with fail
 generalize ((w.alloc (.cells #[.int .i64 x0, .int .i64 x1, .int .i64 x2, .int .i64 x3, .int .i64 x4, .int .i64 x5, .int .i64 x6, .int .i64 x7, .int .i64 x8] 45)).alloc (.cells #[.int .i64 0, .int .i64 0, .int .i64 0, .int .i64 0, .int .i64 0, .int .i64 0, .int .i64 0, .int .i64 0, .int .i64 0] 49)).alloc (.cells #[.int .i64 x0, .int .i64 x1, .int .i64 x2, .int .i64 x3, .int .i64 0, .int .i64 0, .int .i64 0, .int .i64 0, .int .i64 0] 49) = w1 at *
 refine (toOp_any x4 x5 x6 x7 x8 _).mono ?_
 rintro e w2 ⟨rfl, b⟩
 replace c := c.trans (b.mono c.size)
 replace S := S.keep b
 clear b f0 f1 f2 f3 f4
 have f5 := lk S 0 0 rfl rfl
 have f6 := (S.at_ 0 rfl).free 0
 have f7 := lk S 0 1 rfl rfl
 have f8 := (S.at_ 0 rfl).free 1
 have f9 := lk S 0 2 rfl rfl
 have f10 := (S.at_ 0 rfl).free 2
 have f11 := lk S 0 3 rfl rfl
 have f12 := (S.at_ 0 rfl).free 3
 have f13 := lk S 0 4 rfl rfl
 have f14 := (S.at_ 0 rfl).free 4
 have f15 := lk S 0 5 rfl rfl
 have f16 := (S.at_ 0 rfl).free 5
 have f17 := lk S 0 6 rfl rfl
 have f18 := (S.at_ 0 rfl).free 6
 have f19 := lk S 0 7 rfl rfl
 have f20 := (S.at_ 0 rfl).free 7
 have f21 := lk S 0 8 rfl rfl
 have f22 := (S.at_ 0 rfl).free 8
 have f23 := lk S 1 0 rfl rfl
 have f24 := (S.at_ 1 rfl).free 0
 have f25 := lk S 1 1 rfl rfl
 have f26 := (S.at_ 1 rfl).free 1
 have f27 := lk S 1 2 rfl rfl
 have f28 := (S.at_ 1 rfl).free 2
 have f29 := lk S 1 3 rfl rfl
 have f30 := (S.at_ 1 rfl).free 3
 have f31 := lk S 1 4 rfl rfl
 have f32 := (S.at_ 1 rfl).free 4
 have f33 := lk S 1 5 rfl rfl
 have f34 := (S.at_ 1 rfl).free 5
 have f35 := lk S 1 6 rfl rfl
 have f36 := (S.at_ 1 rfl).free 6
 have f37 := lk S 1 7 rfl rfl
 have f38 := (S.at_ 1 rfl).free 7
 have f39 := lk S 1 8 rfl rfl
 have f40 := (S.at_ 1 rfl).free 8
 replace S := S.put 0 rfl 4 (.int .i64 x4)
 replace c := st c S (by omega)
 replace S := S.put 0 rfl 5 (.int .i64 x5)
 replace c := st c S (by omega)
 replace S := S.put 0 rfl 6 (.int .i64 x6)
 replace c := st c S (by omega)
 replace S := S.put 0 rfl 7 (.int .i64 x7)
 replace c := st c S (by omega)
 replace S := S.put 0 rfl 8 (.int .i64 x8)
 replace c := st c S (by omega)
 replace S := S.put 1 rfl 0 (.int .i64 x0)
 replace c := st c S (by omega)
 replace S := S.put 1 rfl 1 (.int .i64 x1)
 replace c := st c S (by omega)
 replace S := S.put 1 rfl 2 (.int .i64 x2)
 replace c := st c S (by omega)
 replace S := S.put 1 rfl 3 (.int .i64 x3)
 replace c := st c S (by omega)
 replace S := S.put 1 rfl 4 (.int .i64 x4)
 replace c := st c S (by omega)
 replace S := S.put 1 rfl 5 (.int .i64 x5)
 replace c := st c S (by omega)
 replace S := S.put 1 rfl 6 (.int .i64 x6)
 replace c := st c S (by omega)
 replace S := S.put 1 rfl 7 (.int .i64 x7)
 replace c := st c S (by omega)
 replace S := S.put 1 rfl 8 (.int .i64 x8)
 replace c := st c S (by omega)
 have C := jd c
 have HF := jd S
 have r0 := jd ((S.at_ 1 rfl).cell 0)
 have r1 := jd ((S.at_ 1 rfl).cell 1)
 have r2 := jd ((S.at_ 1 rfl).cell 2)
 have r3 := jd ((S.at_ 1 rfl).cell 3)
 have r4 := jd ((S.at_ 1 rfl).cell 4)
 have r5 := jd ((S.at_ 1 rfl).cell 5)
 have r6 := jd ((S.at_ 1 rfl).cell 6)
 have r7 := jd ((S.at_ 1 rfl).cell 7)
 have r8 := jd ((S.at_ 1 rfl).cell 8)
 clear S c
 go_wp2
 exact bodyPost_ret (v := .agg #[.int .i64 x0, .int .i64 x1, .int .i64 x2, .int .i64 x3, .int .i64 x4, .int .i64 x5, .int .i64 x6, .int .i64 x7, .int .i64 x8]) (by simp [results, Try.results25, go_sem, r0.out, r1.out, r2.out, r3.out, r4.out, r5.out, r6.out, r7.out, r8.out]) rfl ⟨rfl, C.out⟩
set_option maxHeartbeats 1600000 in
theorem eqEntry_one (x0 x1 x2 x3 x4 x5 x6 x7 x8 : Int) (w : World) :
    Calls Try.prog 29 #[.agg #[.int .i64 x0, .int .i64 x1, .int .i64 x2, .int .i64 x3, .int .i64 x4, .int .i64 x5, .int .i64 x6, .int .i64 x7, .int .i64 x8], .agg #[.int .i64 x0, .int .i64 x1, .int .i64 x2, .int .i64 x3, .int .i64 x4, .int .i64 x5, .int .i64 x6, .int .i64 x7, .int .i64 x8]] w fun e w' => e = .returned (.bool true) ∧ Below w.heap.size w w' := by
 have b0 : Below w.heap.size w ((w.alloc (.cells #[.int .i64 x0, .int .i64 x1, .int .i64 x2, .int .i64 x3, .int .i64 x4, .int .i64 x5, .int .i64 x6, .int .i64 x7, .int .i64 x8] 49)).alloc (.cells #[.int .i64 x0, .int .i64 x1, .int .i64 x2, .int .i64 x3, .int .i64 x4, .int .i64 x5, .int .i64 x6, .int .i64 x7, .int .i64 x8] 49)) :=
  ((Below.refl _ w).alloc (Nat.le_refl _) _).alloc (by simp) _
 have B0 := jd b0
 clear b0
 go_enter Try.func29, Try.ntmps29
 go_wp2_with (first | (go_at_call 55; refine (eqOp_one x4 x5 x6 x7 x8 _).mono ?_; rintro e w1 ⟨rfl, b1⟩))
 have B1 := jd (B0.out.trans (b1.mono B0.out.size))
 go_ret
 exact ⟨rfl, B1.out⟩
def inB (x lo hi : Int) : Bool := decide (lo ≤ x) && decide (x ≤ hi)
theorem inB_iff (x lo hi : Int) : inB x lo hi = true ↔ lo ≤ x ∧ x ≤ hi := by simp [inB]
def opB (o : OpM) : Bool :=
 if o.kind = 1 then inB o.a 0 9 && (inB o.b 0 999 && (decide (o.c = 0) && decide (o.d = 0)))
 else if o.kind = 2 then inB o.a 0 9 && (decide (o.b = 0) && (decide (o.c = 0) && decide (o.d = 0)))
 else if o.kind = 3 then inB o.a 1 20 && (inB o.b 0 1000000 && (inB o.c 0 9 && inB o.d 0 999))
 else if o.kind = 4 then inB o.a 1 20 && (inB o.b 0 1000 && (decide (o.c = 0) && decide (o.d = 0)))
 else if o.kind = 5 then inB o.a 1 1000 && (decide (o.b = 0) && (decide (o.c = 0) && decide (o.d = 0)))
 else false
def EntM.op (e : EntM) : OpM := ⟨e.kd, e.oa, e.ob, e.oc, e.od⟩
def askB (x : Int) : Bool := inB x 2 5
def entB (e : EntM) : Bool := inB e.idx 1 2000 && (inB e.tm 0 1000000 && (askB e.cl && (inB e.sq 1 2000 && opB e.op)))
def op0 : OpM := ⟨0, 0, 0, 0, 0⟩
def ent0 : EntM := ⟨0, 0, 0, 0, 0, 0, 0, 0, 0⟩
def opNs (o : OpM) : List Int := [o.kind, o.a, o.b, o.c, o.d]
def opRowM (o : OpM) : List Int := if opB o = true then opNs o else []
def ofOp (r : List Int) : OpM := ⟨r.getD 0 0, r.getD 1 0, r.getD 2 0, r.getD 3 0, r.getD 4 0⟩
def rowOpM (r : List Int) : OpM × Bool := if r.length = 5 then (if opB (ofOp r) = true then (ofOp r, true) else (op0, false)) else (op0, false)
def entRowM (e : EntM) : List Int := if entB e = true then entNs e else []
def ofEnt (r : List Int) : EntM := ⟨r.getD 0 0, r.getD 1 0, r.getD 2 0, r.getD 3 0, r.getD 4 0, r.getD 5 0, r.getD 6 0, r.getD 7 0, r.getD 8 0⟩
def rowEntM (r : List Int) : EntM × Bool := if r.length = 9 then (if entB (ofEnt r) = true then (ofEnt r, true) else (ent0, false)) else (ent0, false)
theorem entB_op {e : EntM} (h : entB e = true) : opB e.op = true := by
 unfold entB at h
 simp only [Bool.and_eq_true] at h
 exact h.2.2.2.2
theorem entB_iff (e : EntM) : entB e = true ↔ (1 ≤ e.idx ∧ e.idx ≤ 2000) ∧ (0 ≤ e.tm ∧ e.tm ≤ 1000000) ∧ (2 ≤ e.cl ∧ e.cl ≤ 5) ∧ (1 ≤ e.sq ∧ e.sq ≤ 2000) ∧ opB e.op = true := by
 unfold entB askB
 simp only [Bool.and_eq_true, inB_iff]
def mark0 : MarkM := ⟨0, 0, 0⟩
def markB (x : MarkM) : Bool := askB x.mc && (inB x.ms 1 2000 && inB x.mi 1 2000)
theorem mgetD {l : List MarkM} {j : Nat} (hj : j < l.length) : l.getD j mark0 = l[j] := by simp [List.getD, List.getElem?_eq_getElem hj]
theorem markB_iff (x : MarkM) : markB x = true ↔ (2 ≤ x.mc ∧ x.mc ≤ 5) ∧ (1 ≤ x.ms ∧ x.ms ≤ 2000) ∧ (1 ≤ x.mi ∧ x.mi ≤ 2000) := by
 unfold markB askB
 simp only [Bool.and_eq_true, inB_iff]
def freeTo (l : List MarkM) (j k : Nat) : Bool := (List.range k).all fun q => decide ((l.getD q mark0).mi ≠ (l.getD j mark0).mi)
def riseAt (l : List MarkM) (j : Nat) : Bool := decide (j = 0) || decide ((l.getD (j - 1) mark0).mc < (l.getD j mark0).mc)
def seenAt (l : List MarkM) (j : Nat) : Bool := (markB (l.getD j mark0) && riseAt l j) && freeTo l j j
def seenB (l : List MarkM) : Bool := decide (l.length ≤ 4) && (List.range l.length).all (seenAt l)
theorem seenB_iff (l : List MarkM) : seenB l = true ↔ l.length ≤ 4 ∧ ∀ j, j < l.length → seenAt l j = true := by
 unfold seenB
 simp only [Bool.and_eq_true, decide_eq_true_eq, List.all_eq_true, List.mem_range]
theorem seenB_long {l : List MarkM} (h : 4 < l.length) : seenB l = false := by
 unfold seenB
 rw [decide_eq_false (by omega), Bool.false_and]
theorem seenB_step {l : List MarkM} {j : Nat} (hj : j < l.length) (h : seenAt l j = false) : seenB l = false := by
 rw [Bool.eq_false_iff]
 intro h2
 have := ((seenB_iff l).1 h2).2 j hj
 rw [h] at this
 cases this
theorem freeTo_iff (l : List MarkM) (j k : Nat) : freeTo l j k = true ↔ ∀ q, q < k → (l.getD q mark0).mi ≠ (l.getD j mark0).mi := by
 unfold freeTo
 simp only [List.all_eq_true, List.mem_range, decide_eq_true_eq]
theorem freeTo_no {l : List MarkM} {j k q : Nat} (hq : q < k) (h : (l.getD q mark0).mi = (l.getD j mark0).mi) : freeTo l j k = false := by
 rw [Bool.eq_false_iff]
 intro h2
 exact (freeTo_iff l j k).1 h2 q hq h
theorem seen_mark {l : List MarkM} (h : seenB l = true) {j : Nat} (hj : j < l.length) : markB l[j] = true := by
 have h1 := ((seenB_iff l).1 h).2 j hj
 unfold seenAt at h1
 rw [mgetD hj, Bool.and_eq_true, Bool.and_eq_true] at h1
 exact h1.1.1
def findM (l : List MarkM) (c : Int) : MarkM := (l.find? fun x => x.mc == c).getD mark0
def markOf (l : List MarkM) (c : Int) : MarkM := if seenB l = true then findM l c else mark0
def noneTo (l : List MarkM) (c : Int) (j : Nat) : Prop := ∀ q, q < j → (l.getD q mark0).mc ≠ c
theorem findM_at {l : List MarkM} {c : Int} : ∀ {j : Nat} (hj : j < l.length), noneTo l c j → l[j].mc = c → findM l c = l[j] := by
 induction l with
 | nil => intro j hj; exact absurd hj (by simp)
 | cons x t ih =>
  intro j hj hn he
  unfold findM
  rw [List.find?_cons]
  cases j with
  | zero =>
   have e : (x.mc == c) = true := by simpa using he
   rw [e]
   rfl
  | succ k =>
   have h0 := hn 0 (by omega)
   have e : (x.mc == c) = false := by simpa using h0
   rw [e]
   have hk : k < t.length := by simpa using hj
   have := ih hk (fun q hq => by have := hn (q + 1) (by omega); simpa using this) (by simpa using he)
   unfold findM at this
   rw [this]
   simp
theorem findM_none {l : List MarkM} {c : Int} (h : noneTo l c l.length) : findM l c = mark0 := by
 unfold findM
 rw [List.find?_eq_none.2 fun x hx => ?_]
 · rfl
 · obtain ⟨j, hj, rfl⟩ := List.getElem_of_mem hx
   have := h j hj
   rw [mgetD hj] at this
   simpa using this
def maxTo (l : List MarkM) (j : Nat) : Int := (l.take j).foldl (fun a x => max a x.mi) 0
def lastS (l : List MarkM) : Int := if seenB l = true then maxTo l l.length else 0
theorem maxTo_step {l : List MarkM} {j : Nat} (hj : j < l.length) : maxTo l (j + 1) = max (maxTo l j) l[j].mi := by
 unfold maxTo
 rw [List.take_succ_eq_append_getElem hj, List.foldl_append]
 rfl
theorem maxTo_zero (l : List MarkM) : maxTo l 0 = 0 := by
 unfold maxTo
 rw [List.take_zero]
 rfl
theorem seenAt_all {l : List MarkM} (h : seenB l = true) {j : Nat} (hj : j < l.length) : markB l[j] = true ∧ (∀ k, k + 1 = j → (l.getD k mark0).mc < l[j].mc) ∧ ∀ q, q < j → (l.getD q mark0).mi ≠ l[j].mi := by
 have h1 := ((seenB_iff l).1 h).2 j hj
 unfold seenAt riseAt at h1
 rw [mgetD hj, Bool.and_eq_true, Bool.and_eq_true, freeTo_iff, mgetD hj] at h1
 refine ⟨h1.1.1, fun k hk => ?_, h1.2⟩
 have h2 := h1.1.2
 subst hk
 rw [decide_eq_false (show ¬ k + 1 = 0 by omega), Bool.false_or, decide_eq_true_eq, Nat.add_sub_cancel] at h2
 exact h2
theorem seen_rise {l : List MarkM} (h : seenB l = true) : ∀ j (hj : j < l.length) q (hq : q < j), (l[q]'(by omega)).mc < l[j].mc := by
 intro j
 induction j with
 | zero => intro _ q hq; exact absurd hq (by omega)
 | succ k ih =>
  intro hj q hq
  have h1 := (seenAt_all h hj).2.1 k rfl
  rw [mgetD (show k < l.length by omega)] at h1
  by_cases e : q = k
  · subst e; exact h1
  · have h2 := ih (by omega) q (by omega)
    omega
theorem seen_pairs {l : List MarkM} (h : seenB l = true) : (∀ x ∈ l, markB x = true) ∧ l.Pairwise (fun a b => a.mc < b.mc) ∧ l.Pairwise (fun a b => a.mi ≠ b.mi) := by
 refine ⟨fun x hx => ?_, ?_, ?_⟩
 · obtain ⟨j, hj, rfl⟩ := List.getElem_of_mem hx
   exact seen_mark h hj
 · rw [List.pairwise_iff_getElem]
   intro i j hi hj hij
   exact seen_rise h j hj i hij
 · rw [List.pairwise_iff_getElem]
   intro i j hi hj hij
   have := (seenAt_all h hj).2.2 i hij
   rwa [mgetD hi] at this
theorem seen_of {l : List MarkM} (h1 : ∀ x ∈ l, markB x = true) (h2 : l.Pairwise (fun a b => a.mc < b.mc)) (h3 : l.Pairwise (fun a b => a.mi ≠ b.mi)) : seenB l = true := by
 rw [List.pairwise_iff_getElem] at h2 h3
 have hlow : ∀ j (hj : j < l.length), (j : Int) + 2 ≤ l[j].mc := by
  intro j
  induction j with
  | zero =>
   intro hj
   have := ((markB_iff _).1 (h1 _ (List.getElem_mem hj))).1
   simp
   omega
  | succ k ih =>
   intro hj
   have h4 := ih (by omega)
   have h5 := h2 k (k + 1) (by omega) hj (by omega)
   omega
 rw [seenB_iff]
 constructor
 · rcases Nat.lt_or_ge 4 l.length with h4 | h4
   · have h5 := hlow 4 h4
     have h6 := ((markB_iff _).1 (h1 _ (List.getElem_mem h4))).1
     omega
   · exact h4
 · intro j hj
   unfold seenAt riseAt
   rw [mgetD hj, h1 _ (List.getElem_mem hj), Bool.true_and, Bool.and_eq_true, freeTo_iff]
   refine ⟨?_, fun q hq => ?_⟩
   · rcases Nat.eq_zero_or_pos j with h0 | h0
     · rw [decide_eq_true h0, Bool.true_or]
     · rw [mgetD (show j - 1 < l.length by omega), decide_eq_true (h2 (j - 1) j (by omega) hj (by omega)), Bool.or_true]
   · rw [mgetD (show q < l.length by omega), mgetD hj]
     exact h3 q j (by omega) hj hq
theorem maxTo_le (l : List MarkM) : ∀ j, j ≤ l.length → ∀ q (_hq : q < j) (hl : q < l.length), l[q].mi ≤ maxTo l j := by
 intro j
 induction j with
 | zero => intro _ q hq; exact absurd hq (by omega)
 | succ k ih =>
  intro hk q hq hl
  rw [maxTo_step (show k < l.length by omega)]
  by_cases e : q = k
  · subst e; omega
  · have := ih (by omega) q (by omega) hl
    omega
end Go.Proofs.Ytljnplalnhiidaa

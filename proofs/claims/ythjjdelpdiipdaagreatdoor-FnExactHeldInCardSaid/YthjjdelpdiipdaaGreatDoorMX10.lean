/- Parts of my texts: LogT. -/
import Derived.Test.YthjjdelpdiipdaaGreatDoorMX3
import Derived.Test.YthjjdelpdiipdaaGreatDoorMX5
import Derived.Test.YthjjdelpdiipdaaGreatDoorMX9
namespace Go.Proofs.YthjjdelpdiipdaaGreatDoor
set_option maxRecDepth 100000
set_option linter.unusedVariables false
open Go.RowKit
structure LogM where
 two : TwoM
 head : HeadM
 next : HeadM
 more : Bool
 book : BookM
 seen : List MarkM
 dur : Int
 owe : List AckM
def LogM.cells (t : LogM) : List Dat := t.two.cells ++ (t.head.cells ++ (t.next.cells ++ ([.bool t.more] ++ (t.book.cells ++ ([mrkD t.seen] ++ ([.int t.dur] ++ ([oweD t.owe])))))))
def LogM.sz (t : LogM) : Nat := t.two.sz + t.head.sz + t.next.sz + t.book.sz + mrkSz t.seen + oweSz t.owe
def LogM.n (t : LogM) : Nat := t.two.n + t.head.n + t.next.n + t.book.n + mrkN t.seen + oweN t.owe
def MarkedLogNode (t : LogM) (k : Int) : Prop := MarkedT t.two (k) ∧ MarkedHead t.head (k + (t.two.n : Int)) ∧ MarkedHead t.next (k + (t.two.n : Int) + (t.head.n : Int)) ∧ MarkedBook t.book (k + (t.two.n : Int) + (t.head.n : Int) + (t.next.n : Int)) ∧ MarkedMarkS t.seen (k + (t.two.n : Int) + (t.head.n : Int) + (t.next.n : Int) + (t.book.n : Int)) ∧ MarkedAckS t.owe (k + (t.two.n : Int) + (t.head.n : Int) + (t.next.n : Int) + (t.book.n : Int) + (mrkN t.seen : Int))
def MadeLogNode (w : World) (t : LogM) (e : Ending) (w' : World) : Prop :=
 ∃ (A0 : Option Addr) (n0 c0 : Nat) (A1 : Option Addr) (n1 c1 : Nat) (A2 : Option Addr) (n2 c2 : Nat) (A3 : Option Addr) (n3 c3 : Nat) (x4 : Int) (x5 : Int) (x6 : Int) (A7 : Option Addr) (n7 c7 : Nat) (x8 : Int) (x9 : Int) (x10 : Int) (A11 : Option Addr) (n11 c11 : Nat) (y12 : Bool) (x13 : Int) (x14 : Int) (A15 : Option Addr) (n15 c15 : Nat) (A16 : Option Addr) (n16 c16 : Nat) (x17 : Int) (A18 : Option Addr) (n18 c18 : Nat), e = .returned (.agg #[.slice A0 n0 c0, .slice A1 n1 c1, .slice A2 n2 c2, .slice A3 n3 c3, .int .i64 x4, .int .i64 x5, .int .i64 x6, .slice A7 n7 c7, .int .i64 x8, .int .i64 x9, .int .i64 x10, .slice A11 n11 c11, .bool y12, .int .i64 x13, .int .i64 x14, .slice A15 n15 c15, .slice A16 n16 c16, .int .i64 x17, .slice A18 n18 c18]) ∧ Has w' w.heap.size t.cells [.slice A0 n0 c0, .slice A1 n1 c1, .slice A2 n2 c2, .slice A3 n3 c3, .int .i64 x4, .int .i64 x5, .int .i64 x6, .slice A7 n7 c7, .int .i64 x8, .int .i64 x9, .int .i64 x10, .slice A11 n11 c11, .bool y12, .int .i64 x13, .int .i64 x14, .slice A15 n15 c15, .slice A16 n16 c16, .int .i64 x17, .slice A18 n18 c18] ∧ Below w.heap.size w w'
theorem Rd.logT {w : World} {B : Nat} {t : LogM} {v0 v1 v2 v3 v4 v5 v6 v7 v8 v9 v10 v11 v12 v13 v14 v15 v16 v17 v18 : Value} (h : Rd w B t.cells [v0, v1, v2, v3, v4, v5, v6, v7, v8, v9, v10, v11, v12, v13, v14, v15, v16, v17, v18]) : ∃ (A0 : Option Addr) (n0 c0 : Nat) (A1 : Option Addr) (n1 c1 : Nat) (A2 : Option Addr) (n2 c2 : Nat) (A3 : Option Addr) (n3 c3 : Nat) (A7 : Option Addr) (n7 c7 : Nat) (A11 : Option Addr) (n11 c11 : Nat) (A15 : Option Addr) (n15 c15 : Nat) (A16 : Option Addr) (n16 c16 : Nat) (A18 : Option Addr) (n18 c18 : Nat), v0 = .slice A0 n0 c0 ∧ v1 = .slice A1 n1 c1 ∧ v2 = .slice A2 n2 c2 ∧ v3 = .slice A3 n3 c3 ∧ v4 = .int .i64 t.head.num ∧ v5 = .int .i64 t.head.base ∧ v6 = .int .i64 t.head.tm ∧ v7 = .slice A7 n7 c7 ∧ v8 = .int .i64 t.next.num ∧ v9 = .int .i64 t.next.base ∧ v10 = .int .i64 t.next.tm ∧ v11 = .slice A11 n11 c11 ∧ v12 = .bool t.more ∧ v13 = .int .i64 t.book.base ∧ v14 = .int .i64 t.book.tm ∧ v15 = .slice A15 n15 c15 ∧ v16 = .slice A16 n16 c16 ∧ v17 = .int .i64 t.dur ∧ v18 = .slice A18 n18 c18 ∧ Rd w B (t.two.cells) [.slice A0 n0 c0, .slice A1 n1 c1, .slice A2 n2 c2, .slice A3 n3 c3] ∧ Rd w B (t.head.cells) [.int .i64 t.head.num, .int .i64 t.head.base, .int .i64 t.head.tm, .slice A7 n7 c7] ∧ Rd w B (t.next.cells) [.int .i64 t.next.num, .int .i64 t.next.base, .int .i64 t.next.tm, .slice A11 n11 c11] ∧ Rd w B (t.book.cells) [.int .i64 t.book.base, .int .i64 t.book.tm, .slice A15 n15 c15] ∧ Rd w B ([mrkD t.seen]) [.slice A16 n16 c16] ∧ Rd w B ([oweD t.owe]) [.slice A18 n18 c18] := by
 have g0 : Rd w B (t.two.cells ++ (t.head.cells ++ (t.next.cells ++ ([.bool t.more] ++ (t.book.cells ++ ([mrkD t.seen] ++ ([.int t.dur] ++ ([oweD t.owe])))))))) [v0, v1, v2, v3, v4, v5, v6, v7, v8, v9, v10, v11, v12, v13, v14, v15, v16, v17, v18] := h
 obtain ⟨p0, g1⟩ := Rd.cut (ds := t.two.cells) (vs := [v0, v1, v2, v3]) (vs' := [v4, v5, v6, v7, v8, v9, v10, v11, v12, v13, v14, v15, v16, v17, v18]) g0 rfl
 obtain ⟨A0, n0, c0, A1, n1, c1, A2, n2, c2, A3, n3, c3, e0, e1, e2, e3, _⟩ := Rd.twoT p0
 obtain ⟨p1, g2⟩ := Rd.cut (ds := t.head.cells) (vs := [v4, v5, v6, v7]) (vs' := [v8, v9, v10, v11, v12, v13, v14, v15, v16, v17, v18]) g1 rfl
 obtain ⟨A7, n7, c7, e4, e5, e6, e7, _⟩ := Rd.headT p1
 obtain ⟨p2, g3⟩ := Rd.cut (ds := t.next.cells) (vs := [v8, v9, v10, v11]) (vs' := [v12, v13, v14, v15, v16, v17, v18]) g2 rfl
 obtain ⟨A11, n11, c11, e8, e9, e10, e11, _⟩ := Rd.headT p2
 obtain ⟨p3, g4⟩ := Rd.cut (ds := [.bool t.more]) (vs := [v12]) (vs' := [v13, v14, v15, v16, v17, v18]) g3 rfl
 obtain ⟨e12, _⟩ := Rd.bool_cons p3
 obtain ⟨p4, g5⟩ := Rd.cut (ds := t.book.cells) (vs := [v13, v14, v15]) (vs' := [v16, v17, v18]) g4 rfl
 obtain ⟨A15, n15, c15, e13, e14, e15, _⟩ := Rd.bookT p4
 obtain ⟨p5, g6⟩ := Rd.cut (ds := [mrkD t.seen]) (vs := [v16]) (vs' := [v17, v18]) g5 rfl
 obtain ⟨A16, n16, c16, e16, _⟩ := Rd.mrks p5
 obtain ⟨p6, g7⟩ := Rd.cut (ds := [.int t.dur]) (vs := [v17]) (vs' := [v18]) g6 rfl
 obtain ⟨e17, _⟩ := Rd.int_cons p6
 have p7 := g7
 obtain ⟨A18, n18, c18, e18, _⟩ := Rd.owes p7
 subst e0
 subst e1
 subst e2
 subst e3
 subst e4
 subst e5
 subst e6
 subst e7
 subst e8
 subst e9
 subst e10
 subst e11
 subst e12
 subst e13
 subst e14
 subst e15
 subst e16
 subst e17
 subst e18
 exact ⟨A0, n0, c0, A1, n1, c1, A2, n2, c2, A3, n3, c3, A7, n7, c7, A11, n11, c11, A15, n15, c15, A16, n16, c16, A18, n18, c18, rfl, rfl, rfl, rfl, rfl, rfl, rfl, rfl, rfl, rfl, rfl, rfl, rfl, rfl, rfl, rfl, rfl, rfl, rfl, p0, p1, p2, p4, p5, p7⟩
theorem Ow.logT {w : World} {t : LogM} {v0 v1 v2 v3 v4 v5 v6 v7 v8 v9 v10 v11 v12 v13 v14 v15 v16 v17 v18 : Value} {fp : List Nat} (h : Ow w t.cells [v0, v1, v2, v3, v4, v5, v6, v7, v8, v9, v10, v11, v12, v13, v14, v15, v16, v17, v18] fp) : ∃ f0 f1 f2 f4 f5 f7, fp = f0 ++ (f1 ++ (f2 ++ (f4 ++ (f5 ++ (f7 ++ ([])))))) ∧ Ow w (t.two.cells) [v0, v1, v2, v3] f0 ∧ Ow w (t.head.cells) [v4, v5, v6, v7] f1 ∧ Ow w (t.next.cells) [v8, v9, v10, v11] f2 ∧ Ow w (t.book.cells) [v13, v14, v15] f4 ∧ Ow w ([mrkD t.seen]) [v16] f5 ∧ Ow w ([oweD t.owe]) [v18] f7 := by
 have g0 : Ow w (t.two.cells ++ (t.head.cells ++ (t.next.cells ++ ([.bool t.more] ++ (t.book.cells ++ ([mrkD t.seen] ++ ([.int t.dur] ++ ([oweD t.owe] ++ ([]))))))))) [v0, v1, v2, v3, v4, v5, v6, v7, v8, v9, v10, v11, v12, v13, v14, v15, v16, v17, v18] fp := h
 obtain ⟨f0, r0, rfl, o0, g1⟩ := Ow.cut (ds := t.two.cells) (vs := [v0, v1, v2, v3]) (vs' := [v4, v5, v6, v7, v8, v9, v10, v11, v12, v13, v14, v15, v16, v17, v18]) g0 rfl
 obtain ⟨f1, r1, rfl, o1, g2⟩ := Ow.cut (ds := t.head.cells) (vs := [v4, v5, v6, v7]) (vs' := [v8, v9, v10, v11, v12, v13, v14, v15, v16, v17, v18]) g1 rfl
 obtain ⟨f2, r2, rfl, o2, g3⟩ := Ow.cut (ds := t.next.cells) (vs := [v8, v9, v10, v11]) (vs' := [v12, v13, v14, v15, v16, v17, v18]) g2 rfl
 obtain ⟨_, g4⟩ := Ow.bool_cons g3
 obtain ⟨f4, r4, rfl, o4, g5⟩ := Ow.cut (ds := t.book.cells) (vs := [v13, v14, v15]) (vs' := [v16, v17, v18]) g4 rfl
 obtain ⟨f5, r5, rfl, o5, g6⟩ := Ow.cut (ds := [mrkD t.seen]) (vs := [v16]) (vs' := [v17, v18]) g5 rfl
 obtain ⟨_, g7⟩ := Ow.int_cons g6
 obtain ⟨f7, r7, rfl, o7, g8⟩ := Ow.cut (ds := [oweD t.owe]) (vs := [v18]) (vs' := []) g7 rfl
 have gz := Ow.nil_foot g8
 subst gz
 exact ⟨f0, f1, f2, f4, f5, f7, rfl, o0, o1, o2, o4, o5, o7⟩
theorem log_n9 (t : LogM) : t.n ≤ 9 * t.sz := by
 have h0 : t.two.n ≤ 9 * (t.two.sz) := (two_n9 t.two)
 have h1 : t.head.n ≤ 9 * (t.head.sz) := (head_n9 t.head)
 have h2 : t.next.n ≤ 9 * (t.next.sz) := (head_n9 t.next)
 have h3 : t.book.n ≤ 9 * (t.book.sz) := (book_n9 t.book)
 have h4 : mrkN t.seen ≤ 9 * (mrkSz t.seen) := (Nat.le_trans (mrkN_le t.seen) (Nat.mul_le_mul_right _ (by decide)))
 have h5 : oweN t.owe ≤ 9 * (oweSz t.owe) := (Nat.le_trans (oweN_le t.owe) (Nat.mul_le_mul_right _ (by decide)))
 show t.two.n + t.head.n + t.next.n + t.book.n + mrkN t.seen + oweN t.owe ≤ 9 * (t.two.sz + t.head.sz + t.next.sz + t.book.sz + mrkSz t.seen + oweSz t.owe)
 omega
theorem log_n_le (t : LogM) (h : t.sz ≤ 1048577) : t.n ≤ 9437193 := by
 have := log_n9 t
 omega
set_option maxHeartbeats 6400000 in
theorem toLogNode_made (v0 v1 v2 v3 v4 v5 v6 v7 v8 v9 v10 v11 v12 v13 v14 v15 v16 v17 v18 : Value) (t : LogM) (w : World) (h : Rd w w.heap.size t.cells [v0, v1, v2, v3, v4, v5, v6, v7, v8, v9, v10, v11, v12, v13, v14, v15, v16, v17, v18]) (hs : t.sz ≤ 1048576) : Calls Tryz.prog 8 #[.agg #[v0, v1, v2, v3, v4, v5, v6, v7, v8, v9, v10, v11, v12, v13, v14, v15, v16, v17, v18]] w (MadeLogNode w t) := by
 obtain ⟨Aa0, na0, ca0, Aa1, na1, ca1, Aa2, na2, ca2, Aa3, na3, ca3, Aa7, na7, ca7, Aa11, na11, ca11, Aa15, na15, ca15, Aa16, na16, ca16, Aa18, na18, ca18, ea0, ea1, ea2, ea3, ea4, ea5, ea6, ea7, ea8, ea9, ea10, ea11, ea12, ea13, ea14, ea15, ea16, ea17, ea18, hr0, hr1, hr2, hr4, hr5, hr7⟩ := h.logT
 subst ea0 ea1 ea2 ea3 ea4 ea5 ea6 ea7 ea8 ea9 ea10 ea11 ea12 ea13 ea14 ea15 ea16 ea17 ea18
 have S := Sep.nil w w.heap.size
 have c := Below.refl w.heap.size w
 have hz0 : t.two.sz ≤ 1048576 := by unfold LogM.sz at hs; omega
 have hz1 : t.head.sz ≤ 1048576 := by unfold LogM.sz at hs; omega
 have hz2 : t.next.sz ≤ 1048576 := by unfold LogM.sz at hs; omega
 have hz4 : t.book.sz ≤ 1048576 := by unfold LogM.sz at hs; omega
 have hz5 : mrkSz t.seen ≤ 1048576 := by unfold LogM.sz at hs; omega
 have hz7 : oweSz t.owe ≤ 1048576 := by unfold LogM.sz at hs; omega
 replace S := S.boxAt c.size (w.heap.size) rfl #[.slice Aa0 na0 ca0, .slice Aa1 na1 ca1, .slice Aa2 na2 ca2, .slice Aa3 na3 ca3, .int .i64 t.head.num, .int .i64 t.head.base, .int .i64 t.head.tm, .slice Aa7 na7 ca7, .int .i64 t.next.num, .int .i64 t.next.base, .int .i64 t.next.tm, .slice Aa11 na11 ca11, .bool t.more, .int .i64 t.book.base, .int .i64 t.book.tm, .slice Aa15 na15 ca15, .slice Aa16 na16 ca16, .int .i64 t.dur, .slice Aa18 na18 ca18] 36
 replace c := al c S
 replace S := S.boxAt c.size (w.heap.size + 1) (by simp) #[.slice none 0 0, .slice none 0 0, .slice none 0 0, .slice none 0 0, .int .i64 0, .int .i64 0, .int .i64 0, .slice none 0 0, .int .i64 0, .int .i64 0, .int .i64 0, .slice none 0 0, .bool false, .int .i64 0, .int .i64 0, .slice none 0 0, .slice none 0 0, .int .i64 0, .slice none 0 0] 52
 replace c := al c S
 replace S := S.boxAt c.size (w.heap.size + 1 + 1) (by simp) #[.slice none 0 0, .slice none 0 0, .slice none 0 0, .slice none 0 0, .int .i64 0, .int .i64 0, .int .i64 0, .slice none 0 0, .int .i64 0, .int .i64 0, .int .i64 0, .slice none 0 0, .bool false, .int .i64 0, .int .i64 0, .slice none 0 0, .slice none 0 0, .int .i64 0, .slice none 0 0] 52
 replace c := al c S
 go_enter Tryz.func8, Tryz.ntmps8
 go_wp2_with fail
 generalize ((w.alloc (.cells #[.slice Aa0 na0 ca0, .slice Aa1 na1 ca1, .slice Aa2 na2 ca2, .slice Aa3 na3 ca3, .int .i64 t.head.num, .int .i64 t.head.base, .int .i64 t.head.tm, .slice Aa7 na7 ca7, .int .i64 t.next.num, .int .i64 t.next.base, .int .i64 t.next.tm, .slice Aa11 na11 ca11, .bool t.more, .int .i64 t.book.base, .int .i64 t.book.tm, .slice Aa15 na15 ca15, .slice Aa16 na16 ca16, .int .i64 t.dur, .slice Aa18 na18 ca18] 36)).alloc (.cells #[.slice none 0 0, .slice none 0 0, .slice none 0 0, .slice none 0 0, .int .i64 0, .int .i64 0, .int .i64 0, .slice none 0 0, .int .i64 0, .int .i64 0, .int .i64 0, .slice none 0 0, .bool false, .int .i64 0, .int .i64 0, .slice none 0 0, .slice none 0 0, .int .i64 0, .slice none 0 0] 52)).alloc (.cells #[.slice none 0 0, .slice none 0 0, .slice none 0 0, .slice none 0 0, .int .i64 0, .int .i64 0, .int .i64 0, .slice none 0 0, .int .i64 0, .int .i64 0, .int .i64 0, .slice none 0 0, .bool false, .int .i64 0, .int .i64 0, .slice none 0 0, .slice none 0 0, .int .i64 0, .slice none 0 0] 52) = w1 at *
 refine (toTwo_made _ _ _ _ t.two _ ((hr0.keep c).up c.size) hz0).mono ?_
 rintro e w2 ⟨Au0, nu0, cu0, Au1, nu1, cu1, Au2, nu2, cu2, Au3, nu3, cu3, rfl, o, b⟩
 obtain ⟨fp_u0, S'⟩ := S.has b o c.size
 replace c := c.trans (b.mono c.size)
 clear S; have S := S'; clear S' o b
 have f0 := lk S 1 0 rfl rfl
 have f1 := (S.at_ 1 rfl).free 0
 have f2 := lk S 1 1 rfl rfl
 have f3 := (S.at_ 1 rfl).free 1
 have f4 := lk S 1 2 rfl rfl
 have f5 := (S.at_ 1 rfl).free 2
 have f6 := lk S 1 3 rfl rfl
 have f7 := (S.at_ 1 rfl).free 3
 have f8 := lk S 3 4 rfl rfl
 have f9 := lk S 3 5 rfl rfl
 have f10 := lk S 3 6 rfl rfl
 have f11 := lk S 3 7 rfl rfl
 replace S := S.put 1 rfl 0 (.slice Au0 nu0 cu0)
 replace c := st c S (by omega)
 replace S := S.put 1 rfl 1 (.slice Au1 nu1 cu1)
 replace c := st c S (by omega)
 replace S := S.put 1 rfl 2 (.slice Au2 nu2 cu2)
 replace c := st c S (by omega)
 replace S := S.put 1 rfl 3 (.slice Au3 nu3 cu3)
 replace c := st c S (by omega)
 simp only [List.set_cons_succ, List.set_cons_zero, List.setIfInBounds_toArray] at S
 go_wp2_with fail
 generalize (((w2.setCell ⟨w.heap.size + 1 + 1, 0, none⟩ (.slice Au0 nu0 cu0)).setCell ⟨w.heap.size + 1 + 1, 1, none⟩ (.slice Au1 nu1 cu1)).setCell ⟨w.heap.size + 1 + 1, 2, none⟩ (.slice Au2 nu2 cu2)).setCell ⟨w.heap.size + 1 + 1, 3, none⟩ (.slice Au3 nu3 cu3) = w3 at *
 refine (toHead_made _ _ _ _ t.head _ ((hr1.keep c).up c.size) hz1).mono ?_
 rintro e w4 ⟨xu4, xu5, xu6, Au7, nu7, cu7, rfl, o, b⟩
 obtain ⟨fp_u1, S'⟩ := S.has b o c.size
 replace c := c.trans (b.mono c.size)
 clear S; have S := S'; clear S' o b f0 f1 f2 f3 f4 f5 f6 f7 f8 f9 f10 f11
 have f12 := lk S 2 4 rfl rfl
 have f13 := (S.at_ 2 rfl).free 4
 have f14 := lk S 2 5 rfl rfl
 have f15 := (S.at_ 2 rfl).free 5
 have f16 := lk S 2 6 rfl rfl
 have f17 := (S.at_ 2 rfl).free 6
 have f18 := lk S 2 7 rfl rfl
 have f19 := (S.at_ 2 rfl).free 7
 have f20 := lk S 4 8 rfl rfl
 have f21 := lk S 4 9 rfl rfl
 have f22 := lk S 4 10 rfl rfl
 have f23 := lk S 4 11 rfl rfl
 replace S := S.put 2 rfl 4 (.int .i64 xu4)
 replace c := st c S (by omega)
 replace S := S.put 2 rfl 5 (.int .i64 xu5)
 replace c := st c S (by omega)
 replace S := S.put 2 rfl 6 (.int .i64 xu6)
 replace c := st c S (by omega)
 replace S := S.put 2 rfl 7 (.slice Au7 nu7 cu7)
 replace c := st c S (by omega)
 simp only [List.set_cons_succ, List.set_cons_zero, List.setIfInBounds_toArray] at S
 go_wp2_with fail
 generalize (((w4.setCell ⟨w.heap.size + 1 + 1, 4, none⟩ (.int .i64 xu4)).setCell ⟨w.heap.size + 1 + 1, 5, none⟩ (.int .i64 xu5)).setCell ⟨w.heap.size + 1 + 1, 6, none⟩ (.int .i64 xu6)).setCell ⟨w.heap.size + 1 + 1, 7, none⟩ (.slice Au7 nu7 cu7) = w5 at *
 refine (toHead_made _ _ _ _ t.next _ ((hr2.keep c).up c.size) hz2).mono ?_
 rintro e w6 ⟨xu8, xu9, xu10, Au11, nu11, cu11, rfl, o, b⟩
 obtain ⟨fp_u2, S'⟩ := S.has b o c.size
 replace c := c.trans (b.mono c.size)
 clear S; have S := S'; clear S' o b f12 f13 f14 f15 f16 f17 f18 f19 f20 f21 f22 f23
 have f24 := lk S 3 8 rfl rfl
 have f25 := (S.at_ 3 rfl).free 8
 have f26 := lk S 3 9 rfl rfl
 have f27 := (S.at_ 3 rfl).free 9
 have f28 := lk S 3 10 rfl rfl
 have f29 := (S.at_ 3 rfl).free 10
 have f30 := lk S 3 11 rfl rfl
 have f31 := (S.at_ 3 rfl).free 11
 have f32 := lk S 3 12 rfl rfl
 have f33 := (S.at_ 3 rfl).free 12
 have f34 := lk S 5 12 rfl rfl
 have f35 := lk S 5 13 rfl rfl
 have f36 := lk S 5 14 rfl rfl
 have f37 := lk S 5 15 rfl rfl
 replace S := S.put 3 rfl 8 (.int .i64 xu8)
 replace c := st c S (by omega)
 replace S := S.put 3 rfl 9 (.int .i64 xu9)
 replace c := st c S (by omega)
 replace S := S.put 3 rfl 10 (.int .i64 xu10)
 replace c := st c S (by omega)
 replace S := S.put 3 rfl 11 (.slice Au11 nu11 cu11)
 replace c := st c S (by omega)
 replace S := S.put 3 rfl 12 (.bool t.more)
 replace c := st c S (by omega)
 simp only [List.set_cons_succ, List.set_cons_zero, List.setIfInBounds_toArray] at S
 go_wp2_with fail
 generalize ((((w6.setCell ⟨w.heap.size + 1 + 1, 8, none⟩ (.int .i64 xu8)).setCell ⟨w.heap.size + 1 + 1, 9, none⟩ (.int .i64 xu9)).setCell ⟨w.heap.size + 1 + 1, 10, none⟩ (.int .i64 xu10)).setCell ⟨w.heap.size + 1 + 1, 11, none⟩ (.slice Au11 nu11 cu11)).setCell ⟨w.heap.size + 1 + 1, 12, none⟩ (.bool t.more) = w7 at *
 refine (toBook_made _ _ _ t.book _ ((hr4.keep c).up c.size) hz4).mono ?_
 rintro e w8 ⟨xu13, xu14, Au15, nu15, cu15, rfl, o, b⟩
 obtain ⟨fp_u4, S'⟩ := S.has b o c.size
 replace c := c.trans (b.mono c.size)
 clear S; have S := S'; clear S' o b f24 f25 f26 f27 f28 f29 f30 f31 f32 f33 f34 f35 f36 f37
 have f38 := lk S 4 13 rfl rfl
 have f39 := (S.at_ 4 rfl).free 13
 have f40 := lk S 4 14 rfl rfl
 have f41 := (S.at_ 4 rfl).free 14
 have f42 := lk S 4 15 rfl rfl
 have f43 := (S.at_ 4 rfl).free 15
 have f44 := lk S 6 16 rfl rfl
 replace S := S.put 4 rfl 13 (.int .i64 xu13)
 replace c := st c S (by omega)
 replace S := S.put 4 rfl 14 (.int .i64 xu14)
 replace c := st c S (by omega)
 replace S := S.put 4 rfl 15 (.slice Au15 nu15 cu15)
 replace c := st c S (by omega)
 simp only [List.set_cons_succ, List.set_cons_zero, List.setIfInBounds_toArray] at S
 go_wp2_with fail
 generalize ((w8.setCell ⟨w.heap.size + 1 + 1, 13, none⟩ (.int .i64 xu13)).setCell ⟨w.heap.size + 1 + 1, 14, none⟩ (.int .i64 xu14)).setCell ⟨w.heap.size + 1 + 1, 15, none⟩ (.slice Au15 nu15 cu15) = w9 at *
 refine (toMarkS_made _ _ _ t.seen _ ((hr5.keep c).up c.size) hz5).mono ?_
 rintro e w10 ⟨Au16, nu16, cu16, rfl, o, b⟩
 obtain ⟨fp_u5, S'⟩ := S.has b o c.size
 replace c := c.trans (b.mono c.size)
 clear S; have S := S'; clear S' o b f38 f39 f40 f41 f42 f43 f44
 have f45 := lk S 5 16 rfl rfl
 have f46 := (S.at_ 5 rfl).free 16
 have f47 := lk S 5 17 rfl rfl
 have f48 := (S.at_ 5 rfl).free 17
 have f49 := lk S 7 17 rfl rfl
 have f50 := lk S 7 18 rfl rfl
 replace S := S.put 5 rfl 16 (.slice Au16 nu16 cu16)
 replace c := st c S (by omega)
 replace S := S.put 5 rfl 17 (.int .i64 t.dur)
 replace c := st c S (by omega)
 simp only [List.set_cons_succ, List.set_cons_zero, List.setIfInBounds_toArray] at S
 go_wp2_with fail
 generalize (w10.setCell ⟨w.heap.size + 1 + 1, 16, none⟩ (.slice Au16 nu16 cu16)).setCell ⟨w.heap.size + 1 + 1, 17, none⟩ (.int .i64 t.dur) = w11 at *
 refine (toAckS_made _ _ _ t.owe _ ((hr7.keep c).up c.size) hz7).mono ?_
 rintro e w12 ⟨Au18, nu18, cu18, rfl, o, b⟩
 obtain ⟨fp_u7, S'⟩ := S.has b o c.size
 replace c := c.trans (b.mono c.size)
 clear S; have S := S'; clear S' o b f45 f46 f47 f48 f49 f50
 have f51 := lk S 6 18 rfl rfl
 have f52 := (S.at_ 6 rfl).free 18
 have f53 := lk S 6 0 rfl rfl
 have f54 := lk S 6 1 rfl rfl
 have f55 := lk S 6 2 rfl rfl
 have f56 := lk S 6 3 rfl rfl
 have f57 := lk S 6 4 rfl rfl
 have f58 := lk S 6 5 rfl rfl
 have f59 := lk S 6 6 rfl rfl
 have f60 := lk S 6 7 rfl rfl
 have f61 := lk S 6 8 rfl rfl
 have f62 := lk S 6 9 rfl rfl
 have f63 := lk S 6 10 rfl rfl
 have f64 := lk S 6 11 rfl rfl
 have f65 := lk S 6 12 rfl rfl
 have f66 := lk S 6 13 rfl rfl
 have f67 := lk S 6 14 rfl rfl
 have f68 := lk S 6 15 rfl rfl
 have f69 := lk S 6 16 rfl rfl
 have f70 := lk S 6 17 rfl rfl
 replace S := S.put 6 rfl 18 (.slice Au18 nu18 cu18)
 replace c := st c S (by omega)
 simp only [List.set_cons_succ, List.set_cons_zero, List.setIfInBounds_toArray] at S
 have hblo := S.at_ 6 rfl
 have hblk := S.at_ 7 rfl
 replace c := c.trans ((touch_setRow (w12.setCell ⟨w.heap.size + 1 + 1, 18, none⟩ (.slice Au18 nu18 cu18)) (w.heap.size + 1) #[.slice Au0 nu0 cu0, .slice Au1 nu1 cu1, .slice Au2 nu2 cu2, .slice Au3 nu3 cu3, .int .i64 xu4, .int .i64 xu5, .int .i64 xu6, .slice Au7 nu7 cu7, .int .i64 xu8, .int .i64 xu9, .int .i64 xu10, .slice Au11 nu11 cu11, .bool t.more, .int .i64 xu13, .int .i64 xu14, .slice Au15 nu15 cu15, .slice Au16 nu16 cu16, .int .i64 t.dur, .slice Au18 nu18 cu18]).below (fun q hq => by rw [List.mem_singleton.1 hq]; exact S.base_le 7 rfl) c.size)
 replace S := S.row 7 rfl #[.slice Au0 nu0 cu0, .slice Au1 nu1 cu1, .slice Au2 nu2 cu2, .slice Au3 nu3 cu3, .int .i64 xu4, .int .i64 xu5, .int .i64 xu6, .slice Au7 nu7 cu7, .int .i64 xu8, .int .i64 xu9, .int .i64 xu10, .slice Au11 nu11 cu11, .bool t.more, .int .i64 xu13, .int .i64 xu14, .slice Au15 nu15 cu15, .slice Au16 nu16 cu16, .int .i64 t.dur, .slice Au18 nu18 cu18]
 have hblr := S.at_ 7 rfl
 have hzz := S.nodup
 have S2 := (S.sub ((.cons_cons _ (.cons_cons _ (.cons_cons _ (.cons_cons _ (.cons_cons _ (.cons_cons _ (List.nil_sublist _))))))))).of_perm (is' := [.own (t.two.cells) [.slice Au0 nu0 cu0, .slice Au1 nu1 cu1, .slice Au2 nu2 cu2, .slice Au3 nu3 cu3] fp_u0, .own (t.head.cells) [.int .i64 xu4, .int .i64 xu5, .int .i64 xu6, .slice Au7 nu7 cu7] fp_u1, .own (t.next.cells) [.int .i64 xu8, .int .i64 xu9, .int .i64 xu10, .slice Au11 nu11 cu11] fp_u2, .own (t.book.cells) [.int .i64 xu13, .int .i64 xu14, .slice Au15 nu15 cu15] fp_u4, .own ([mrkD t.seen]) [.slice Au16 nu16 cu16] fp_u5, .own ([oweD t.owe]) [.slice Au18 nu18 cu18] fp_u7]) (by exact (List.reverse_perm _).symm)
 have H0 : Has _ w.heap.size t.cells [.slice Au0 nu0 cu0, .slice Au1 nu1 cu1, .slice Au2 nu2 cu2, .slice Au3 nu3 cu3, .int .i64 xu4, .int .i64 xu5, .int .i64 xu6, .slice Au7 nu7 cu7, .int .i64 xu8, .int .i64 xu9, .int .i64 xu10, .slice Au11 nu11 cu11, .bool t.more, .int .i64 xu13, .int .i64 xu14, .slice Au15 nu15 cu15, .slice Au16 nu16 cu16, .int .i64 t.dur, .slice Au18 nu18 cu18] := ⟨fp_u0 ++ (fp_u1 ++ (fp_u2 ++ (fp_u4 ++ (fp_u5 ++ (fp_u7 ++ ([])))))), (Ow.append (S.own_ 5 rfl) (Ow.append (S.own_ 4 rfl) (Ow.append (S.own_ 3 rfl) (.bool (Ow.append (S.own_ 2 rfl) (Ow.append (S.own_ 1 rfl) (.int (Ow.append (S.own_ 0 rfl) .nil)))))))), S2.nodup, S2.ge⟩
 have H := jd H0
 have C := jd c
 clear S S2 H0 hzz c h hr0 hr1 hr2 hr4 hr5 hr7
 go_wp2_with (first | (refine wpList_load_box rfl 52 _ (by rfl) (w.heap.size + 1 + 1) (by rfl) _ _ hblo _ Tryz.underlying52 (by rfl) (show _ = some 19 by kernel_rfl) ?_) | (refine wpList_store_box rfl 52 _ _ (by rfl) (w.heap.size + 1) #[.slice Au0 nu0 cu0, .slice Au1 nu1 cu1, .slice Au2 nu2 cu2, .slice Au3 nu3 cu3, .int .i64 xu4, .int .i64 xu5, .int .i64 xu6, .slice Au7 nu7 cu7, .int .i64 xu8, .int .i64 xu9, .int .i64 xu10, .slice Au11 nu11 cu11, .bool t.more, .int .i64 xu13, .int .i64 xu14, .slice Au15 nu15 cu15, .slice Au16 nu16 cu16, .int .i64 t.dur, .slice Au18 nu18 cu18] (by rfl) (by rfl) _ _ hblk (show _ = some 19 by kernel_rfl) rfl (all_oneCell_toArray (cs := [.slice Au0 nu0 cu0, .slice Au1 nu1 cu1, .slice Au2 nu2 cu2, .slice Au3 nu3 cu3, .int .i64 xu4, .int .i64 xu5, .int .i64 xu6, .slice Au7 nu7 cu7, .int .i64 xu8, .int .i64 xu9, .int .i64 xu10, .slice Au11 nu11 cu11, .bool t.more, .int .i64 xu13, .int .i64 xu14, .slice Au15 nu15 cu15, .slice Au16 nu16 cu16, .int .i64 t.dur, .slice Au18 nu18 cu18]) (by simp [Value.oneCell'])) ?_))
 exact bodyPost_ret (v := .agg #[.slice Au0 nu0 cu0, .slice Au1 nu1 cu1, .slice Au2 nu2 cu2, .slice Au3 nu3 cu3, .int .i64 xu4, .int .i64 xu5, .int .i64 xu6, .slice Au7 nu7 cu7, .int .i64 xu8, .int .i64 xu9, .int .i64 xu10, .slice Au11 nu11 cu11, .bool t.more, .int .i64 xu13, .int .i64 xu14, .slice Au15 nu15 cu15, .slice Au16 nu16 cu16, .int .i64 t.dur, .slice Au18 nu18 cu18]) (results_cell_row Tryz.results8 _ _ (w.heap.size + 1) _ _ _ _ (by rfl) hblr Tryz.underlying52 (by rfl) (by kernel_rfl)) rfl ⟨_, _, _, _, _, _, _, _, _, _, _, _, _, _, _, _, _, _, _, _, _, _, _, _, _, _, _, _, _, _, _, _, _, _, _, _, _, rfl, H.out, C.out⟩
end Go.Proofs.YthjjdelpdiipdaaGreatDoor

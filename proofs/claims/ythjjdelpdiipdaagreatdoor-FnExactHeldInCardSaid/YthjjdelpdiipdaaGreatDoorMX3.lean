/- Parts of my texts: KB Same KT TwoT. -/
import Derived.Test.YthjjdelpdiipdaaGreatDoorMX2
namespace Go.Proofs.YthjjdelpdiipdaaGreatDoor
set_option maxRecDepth 100000
set_option linter.unusedVariables false
open Go.RowKit
end Go.Proofs.YthjjdelpdiipdaaGreatDoor
namespace Go.Proofs.YthjjdelpdiipdaaGreatDoor
set_option maxRecDepth 100000
open Go.RowKit
end Go.Proofs.YthjjdelpdiipdaaGreatDoor
namespace Go.Proofs.YthjjdelpdiipdaaGreatDoor
set_option maxRecDepth 100000
open Go.RowKit
theorem IRow.take {w : World} {B : Nat} {A : Option Addr} {n k : Nat} {xs : List Int} (h : IRow w B A n xs) (hk : k ≤ n) : IRow w B A k (xs.take k) := by
 have hl := h.1
 refine ⟨by simp; omega, fun h0 => ?_⟩
 obtain ⟨b, off, rfl, hb, hc⟩ := h.2 (by omega)
 refine ⟨b, off, rfl, hb, fun j hj => ?_⟩
 rw [hc j (by omega)]
 simp [List.getD, hj]
end Go.Proofs.YthjjdelpdiipdaaGreatDoor
namespace Go.Proofs.YthjjdelpdiipdaaGreatDoor
set_option maxRecDepth 100000
end Go.Proofs.YthjjdelpdiipdaaGreatDoor
namespace Go.Proofs.YthjjdelpdiipdaaGreatDoor
set_option maxRecDepth 100000
set_option linter.unusedVariables false
open Go.RowKit
def EqTo (xs ys : List Int) (k : Nat) : Prop := ∀ j, j < k → xs.getD j 0 = ys.getD j 0
theorem EqTo.zero (xs ys : List Int) : EqTo xs ys 0 := fun j hj => absurd hj (by omega)
theorem EqTo.succ {xs ys : List Int} {k : Nat} (h : EqTo xs ys k) (hk : xs.getD k 0 = ys.getD k 0) : EqTo xs ys (k + 1) := by
 intro j hj
 by_cases e : j = k
 · subst e; exact hk
 · exact h j (by omega)
end Go.Proofs.YthjjdelpdiipdaaGreatDoor
namespace Go.Proofs.YthjjdelpdiipdaaGreatDoor
set_option maxRecDepth 100000
set_option linter.unusedVariables false
open Go.RowKit
structure TwoM where
 a : DiskM
 b : DiskM
def TwoM.cells (t : TwoM) : List Dat := t.a.cells ++ t.b.cells
def TwoM.sz (t : TwoM) : Nat := t.a.sz + t.b.sz
def TwoM.n (t : TwoM) : Nat := t.a.n + t.b.n
def MarkedT (t : TwoM) (k : Int) : Prop := MarkedD t.a k ∧ MarkedD t.b (k + (t.a.n : Int))
def MadeT (w : World) (t : TwoM) (e : Ending) (w' : World) : Prop :=
 ∃ A0 n0 c0 A1 n1 c1 A2 n2 c2 A3 n3 c3, e = .returned (.agg #[.slice A0 n0 c0, .slice A1 n1 c1, .slice A2 n2 c2, .slice A3 n3 c3]) ∧ Has w' w.heap.size t.cells [.slice A0 n0 c0, .slice A1 n1 c1, .slice A2 n2 c2, .slice A3 n3 c3] ∧ Below w.heap.size w w'
section
variable {w : World} {B : Nat} {t : TwoM} {v0 v1 v2 v3 : Value}
theorem Rd.halves (h : Rd w B t.cells [v0, v1, v2, v3]) : Rd w B t.a.cells [v0, v1] ∧ Rd w B t.b.cells [v2, v3] := Rd.cut (vs := [v0, v1]) (vs' := [v2, v3]) h rfl
theorem Rd.slices (h : Rd w B t.cells [v0, v1, v2, v3]) : ∃ A0 n0 c0 A1 n1 c1 A2 n2 c2 A3 n3 c3, v0 = .slice A0 n0 c0 ∧ v1 = .slice A1 n1 c1 ∧ v2 = .slice A2 n2 c2 ∧ v3 = .slice A3 n3 c3 := by
 obtain ⟨h1, h2⟩ := h.halves
 obtain ⟨A0, n0, c0, A1, n1, c1, rfl, rfl, _⟩ := h1.disk
 obtain ⟨A2, n2, c2, A3, n3, c3, rfl, rfl, _⟩ := h2.disk
 exact ⟨A0, n0, c0, A1, n1, c1, A2, n2, c2, A3, n3, c3, rfl, rfl, rfl, rfl⟩
end
theorem two_n_le (t : TwoM) (h : t.sz ≤ 1048577) : t.n ≤ 2097154 := by
 have h1 := nums_le_rows t.a.kept
 have h2 := nums_le_wait t.a.wait
 have h3 := nums_le_rows t.b.kept
 have h4 := nums_le_wait t.b.wait
 unfold TwoM.sz DiskM.sz at h
 unfold TwoM.n DiskM.n
 omega
set_option maxHeartbeats 3200000 in
theorem toTwo_made (v0 v1 v2 v3 : Value) (t : TwoM) (w : World) (h : Rd w w.heap.size t.cells [v0, v1, v2, v3]) (hs : t.sz ≤ 1048576) : Calls Tryz.prog 38 #[.agg #[v0, v1, v2, v3]] w (MadeT w t) := by
 obtain ⟨Aa0, na0, ca0, Aa1, na1, ca1, Aa2, na2, ca2, Aa3, na3, ca3, rfl, rfl, rfl, rfl⟩ := h.slices
 obtain ⟨ha, hb⟩ := h.halves
 have S := Sep.nil w w.heap.size
 have c := Below.refl w.heap.size w
 replace S := S.boxAt c.size (w.heap.size) rfl #[.slice Aa0 na0 ca0, .slice Aa1 na1 ca1, .slice Aa2 na2 ca2, .slice Aa3 na3 ca3] 27
 replace c := al c S
 replace S := S.boxAt c.size (w.heap.size + 1) (by simp) #[.slice none 0 0, .slice none 0 0, .slice none 0 0, .slice none 0 0] 43
 replace c := al c S
 replace S := S.boxAt c.size (w.heap.size + 1 + 1) (by simp) #[.slice none 0 0, .slice none 0 0, .slice none 0 0, .slice none 0 0] 43
 replace c := al c S
 go_enter Tryz.func38, Tryz.ntmps38
 go_wp2_with fail
 generalize ((w.alloc (.cells #[.slice Aa0 na0 ca0, .slice Aa1 na1 ca1, .slice Aa2 na2 ca2, .slice Aa3 na3 ca3] 27)).alloc (.cells #[.slice none 0 0, .slice none 0 0, .slice none 0 0, .slice none 0 0] 43)).alloc (.cells #[.slice none 0 0, .slice none 0 0, .slice none 0 0, .slice none 0 0] 43) = w1 at *
 refine (toDisk_made _ _ t.a _ ((ha.keep c).up c.size) (by unfold TwoM.sz at hs; omega)).mono ?_
 rintro e w2 ⟨Au0, nu0, cu0, Au1, nu1, cu1, rfl, o, b⟩
 obtain ⟨fp_u, S'⟩ := S.has b o c.size
 replace c := c.trans (b.mono c.size)
 clear S; have S := S'; clear S' o b
 have f0 := lk S 1 0 rfl rfl
 have f1 := (S.at_ 1 rfl).free 0
 have f2 := lk S 1 1 rfl rfl
 have f3 := (S.at_ 1 rfl).free 1
 replace S := S.put 1 rfl 0 (.slice Au0 nu0 cu0)
 replace c := st c S (by omega)
 replace S := S.put 1 rfl 1 (.slice Au1 nu1 cu1)
 replace c := st c S (by omega)
 have f4 := lk S 3 2 rfl rfl
 have f5 := lk S 3 3 rfl rfl
 go_wp2_with fail
 generalize (w2.setCell ⟨w.heap.size + 1 + 1, 0, none⟩ (.slice Au0 nu0 cu0)).setCell ⟨w.heap.size + 1 + 1, 1, none⟩ (.slice Au1 nu1 cu1) = w3 at *
 refine (toDisk_made _ _ t.b _ ((hb.keep c).up c.size) (by unfold TwoM.sz at hs; omega)).mono ?_
 rintro e w4 ⟨Ax0, nx0, cx0, Ax1, nx1, cx1, rfl, o, b⟩
 obtain ⟨fp_x, S'⟩ := S.has b o c.size
 replace c := c.trans (b.mono c.size)
 clear S; have S := S'; clear S' o b f0 f1 f2 f3 f4 f5
 have f6 := lk S 2 2 rfl rfl
 have f7 := (S.at_ 2 rfl).free 2
 have f8 := lk S 2 3 rfl rfl
 have f9 := (S.at_ 2 rfl).free 3
 have f10 := lk S 2 0 rfl rfl
 have f11 := lk S 2 1 rfl rfl
 have f12 := lk S 3 0 rfl rfl
 have f13 := (S.at_ 3 rfl).free 0
 have f14 := lk S 3 1 rfl rfl
 have f15 := (S.at_ 3 rfl).free 1
 have f16 := lk S 3 2 rfl rfl
 have f17 := (S.at_ 3 rfl).free 2
 have f18 := lk S 3 3 rfl rfl
 have f19 := (S.at_ 3 rfl).free 3
 replace S := S.put 2 rfl 2 (.slice Ax0 nx0 cx0)
 replace c := st c S (by omega)
 replace S := S.put 2 rfl 3 (.slice Ax1 nx1 cx1)
 replace c := st c S (by omega)
 replace S := S.put 3 rfl 0 (.slice Au0 nu0 cu0)
 replace c := st c S (by omega)
 replace S := S.put 3 rfl 1 (.slice Au1 nu1 cu1)
 replace c := st c S (by omega)
 replace S := S.put 3 rfl 2 (.slice Ax0 nx0 cx0)
 replace c := st c S (by omega)
 replace S := S.put 3 rfl 3 (.slice Ax1 nx1 cx1)
 replace c := st c S (by omega)
 have H := jd S.pair
 have C := jd c
 clear S c ha hb h
 go_wp2
 exact bodyPost_ret (v := .agg #[.slice Au0 nu0 cu0, .slice Au1 nu1 cu1, .slice Ax0 nx0 cx0, .slice Ax1 nx1 cx1]) (by simp [results, Tryz.results38, go_sem, f12, f14, f16, f18]) rfl ⟨_, _, _, _, _, _, _, _, _, _, _, _, rfl, H.out, C.out⟩
set_option maxHeartbeats 3200000 in
theorem eqTwo_yes (v0 v1 v2 v3 u0 u1 u2 u3 : Value) (B B' : Nat) (t : TwoM) (w : World) (h : Rd w B t.cells [v0, v1, v2, v3]) (h' : Rd w B' t.cells [u0, u1, u2, u3]) (hB : B ≤ w.heap.size) (hB' : B' ≤ w.heap.size) (hs : t.sz ≤ 1048577) :
    Calls Tryz.prog 44 #[.agg #[v0, v1, v2, v3], .agg #[u0, u1, u2, u3]] w fun e w' => e = .returned (.bool true) ∧ Below w.heap.size w w' := by
 obtain ⟨Aa0, na0, ca0, Aa1, na1, ca1, Aa2, na2, ca2, Aa3, na3, ca3, rfl, rfl, rfl, rfl⟩ := h.slices
 obtain ⟨Ab0, nb0, cb0, Ab1, nb1, cb1, Ab2, nb2, cb2, Ab3, nb3, cb3, rfl, rfl, rfl, rfl⟩ := h'.slices
 obtain ⟨ha, hb⟩ := h.halves
 obtain ⟨ka, kb⟩ := h'.halves
 have S := Sep.nil w w.heap.size
 have c := Below.refl w.heap.size w
 replace S := S.boxAt c.size (w.heap.size) rfl #[.slice Aa0 na0 ca0, .slice Aa1 na1 ca1, .slice Aa2 na2 ca2, .slice Aa3 na3 ca3] 43
 replace c := al c S
 replace S := S.boxAt c.size (w.heap.size + 1) (by simp) #[.slice Ab0 nb0 cb0, .slice Ab1 nb1 cb1, .slice Ab2 nb2 cb2, .slice Ab3 nb3 cb3] 43
 replace c := al c S
 go_enter Tryz.func44, Tryz.ntmps44
 go_wp2_with fail
 generalize (w.alloc (.cells #[.slice Aa0 na0 ca0, .slice Aa1 na1 ca1, .slice Aa2 na2 ca2, .slice Aa3 na3 ca3] 43)).alloc (.cells #[.slice Ab0 nb0 cb0, .slice Ab1 nb1 cb1, .slice Ab2 nb2 cb2, .slice Ab3 nb3 cb3] 43) = w1 at *
 refine (eqDisk_yes _ _ _ _ _ _ t.a _ (ha.keep (c.mono hB)) (ka.keep (c.mono hB')) (Nat.le_trans hB c.size) (Nat.le_trans hB' c.size) (by unfold TwoM.sz at hs; omega)).mono ?_
 rintro e w2 ⟨rfl, b⟩
 replace c := c.trans (b.mono c.size)
 replace S := S.keep b
 clear b
 have f0 := lk S 1 2 rfl rfl
 have f1 := lk S 1 3 rfl rfl
 have f2 := lk S 0 2 rfl rfl
 have f3 := lk S 0 3 rfl rfl
 go_wp2_with fail
 refine (eqDisk_yes _ _ _ _ _ _ t.b _ (hb.keep (c.mono hB)) (kb.keep (c.mono hB')) (Nat.le_trans hB c.size) (Nat.le_trans hB' c.size) (by unfold TwoM.sz at hs; omega)).mono ?_
 rintro e w3 ⟨rfl, b⟩
 replace c := c.trans (b.mono c.size)
 replace S := S.keep b
 clear b f0 f1 f2 f3
 have C := jd c
 clear S c ha hb ka kb h h'
 go_wp2
 go_ret
 exact ⟨rfl, C.out⟩
set_option maxHeartbeats 3200000 in
theorem markTwo_any (v0 v1 v2 v3 : Value) (t : TwoM) (fp : List Nat) (w : World) (o : Ow w t.cells [v0, v1, v2, v3] fp) (hnd : fp.Nodup) (hs : t.sz ≤ 1048577) (k : Int) (k0 : 0 ≤ k) (k1 : k ≤ 90000000000) :
    Calls Tryz.prog 52 #[.agg #[v0, v1, v2, v3], .int .i64 k] w fun e w' => ∃ t', e = .returned (.int .i64 (k + (t.n : Int))) ∧ Ow w' t'.cells [v0, v1, v2, v3] fp ∧ Touch fp w w' ∧ MarkedT t' k ∧ t'.n = t.n ∧ t'.sz = t.sz := by
 obtain ⟨Aa0, na0, ca0, Aa1, na1, ca1, Aa2, na2, ca2, Aa3, na3, ca3, rfl, rfl, rfl, rfl⟩ := o.rd.slices
 have S := Sep.nil w w.heap.size
 have c := Below.refl w.heap.size w
 obtain ⟨f1, f2, rfl, o1, o2⟩ := Ow.cut (vs := [.slice Aa0 na0 ca0, .slice Aa1 na1 ca1]) (vs' := [.slice Aa2 na2 ca2, .slice Aa3 na3 ca3]) o rfl
 have hlt := o.lt
 rw [List.nodup_append] at hnd
 obtain ⟨hn1, hn2, hdis⟩ := hnd
 have hk := two_n_le t hs
 have hna : t.n = t.a.n + t.b.n := rfl
 have hsa : t.a.sz ≤ 1048577 := by unfold TwoM.sz at hs; omega
 have hsb : t.b.sz ≤ 1048577 := by unfold TwoM.sz at hs; omega
 clear o
 replace S := S.boxAt c.size (w.heap.size) rfl #[.slice Aa0 na0 ca0, .slice Aa1 na1 ca1, .slice Aa2 na2 ca2, .slice Aa3 na3 ca3] 43
 replace c := al c S
 replace o1 := o1.keep ((Below.refl _ _).alloc (Nat.le_refl _) (.cells #[.slice Aa0 na0 ca0, .slice Aa1 na1 ca1, .slice Aa2 na2 ca2, .slice Aa3 na3 ca3] 43))
 replace o2 := o2.keep ((Below.refl _ _).alloc (Nat.le_refl _) (.cells #[.slice Aa0 na0 ca0, .slice Aa1 na1 ca1, .slice Aa2 na2 ca2, .slice Aa3 na3 ca3] 43))
 have p0 := S.at_ 0 rfl
 clear S
 go_enter Tryz.func52, Tryz.ntmps52
 go_wp2_with fail
 generalize w.alloc (.cells #[.slice Aa0 na0 ca0, .slice Aa1 na1 ca1, .slice Aa2 na2 ca2, .slice Aa3 na3 ca3] 43) = w1 at *
 refine (markDisk_any _ _ t.a f1 _ o1 hn1 hsa k k0 (by omega)).mono ?_
 rintro e w2 ⟨d1, rfl, q1, t1, m1, en1, es1⟩
 have q2 := o2.touch t1 (fun p hp hm => hdis p hm p hp rfl)
 have p1 := p0.touch t1 (fun hm => by have := hlt _ (List.mem_append_left _ hm); omega)
 have c2 : w2.cell? ⟨w.heap.size, 2, none⟩ = some (.slice Aa2 na2 ca2) := p1.cell 2
 have c3 : w2.cell? ⟨w.heap.size, 3, none⟩ = some (.slice Aa3 na3 ca3) := p1.cell 3
 clear p0 p1 o1 o2
 go_wp2_with fail
 refine (markDisk_any _ _ t.b f2 _ q2 hn2 hsb _ (by omega) (by omega)).mono ?_
 rintro e w3 ⟨d2, rfl, r2, t2, m2, en2, es2⟩
 have r1 := q1.touch t2 (fun p hp hm => hdis p hp p hm rfl)
 have T := jd (((Touch.of_below c (f1 ++ f2)).trans (t1.mono fun p hp => List.mem_append_left _ hp)).trans (t2.mono fun p hp => List.mem_append_right _ hp))
 have R := jd (Ow.append r1 r2)
 have M1 := jd m1
 have M2 := jd m2
 have E := jd (And.intro (And.intro en1 es1) (And.intro en2 es2))
 clear q1 q2 r1 r2 t1 t2 m1 m2 c2 c3 en1 en2 es1 es2 c
 go_wp2
 go_ret
 obtain ⟨⟨en1, es1⟩, en2, es2⟩ := E.out
 refine ⟨⟨d1, d2⟩, ?_, R.out, T.out, ⟨M1.out, ?_⟩, ?_, ?_⟩
 · refine congrArg Ending.returned (congrArg (Value.int .i64) ?_)
   omega
 · show MarkedD d2 (k + (d1.n : Int))
   rw [en1]
   exact M2.out
 · show d1.n + d2.n = t.a.n + t.b.n
   omega
 · show d1.sz + d2.sz = t.a.sz + t.b.sz
   omega
set_option maxHeartbeats 3200000 in
theorem heldTwo_any (v0 v1 v2 v3 : Value) (t : TwoM) (B : Nat) (w : World) (h : Rd w B t.cells [v0, v1, v2, v3]) (hB : B ≤ w.heap.size) (hs : t.sz ≤ 1048577) (k : Int) (k0 : 0 ≤ k) (k1 : k ≤ 90000000000) (hm : MarkedT t k) :
    Calls Tryz.prog 59 #[.agg #[v0, v1, v2, v3], .int .i64 k] w fun e w' => e = .returned (.int .i64 (k + (t.n : Int))) ∧ Below w.heap.size w w' := by
 obtain ⟨Aa0, na0, ca0, Aa1, na1, ca1, Aa2, na2, ca2, Aa3, na3, ca3, rfl, rfl, rfl, rfl⟩ := h.slices
 obtain ⟨ha, hb⟩ := h.halves
 have S := Sep.nil w w.heap.size
 have c := Below.refl w.heap.size w
 have hk := two_n_le t hs
 have hna : t.n = t.a.n + t.b.n := rfl
 have hsa : t.a.sz ≤ 1048577 := by unfold TwoM.sz at hs; omega
 have hsb : t.b.sz ≤ 1048577 := by unfold TwoM.sz at hs; omega
 obtain ⟨m1, m2⟩ := hm
 replace S := S.boxAt c.size (w.heap.size) rfl #[.slice Aa0 na0 ca0, .slice Aa1 na1 ca1, .slice Aa2 na2 ca2, .slice Aa3 na3 ca3] 43
 replace c := al c S
 go_enter Tryz.func59, Tryz.ntmps59
 go_wp2_with fail
 generalize w.alloc (.cells #[.slice Aa0 na0 ca0, .slice Aa1 na1 ca1, .slice Aa2 na2 ca2, .slice Aa3 na3 ca3] 43) = w1 at *
 refine (heldDisk_any _ _ t.a _ _ (ha.keep (c.mono hB)) (Nat.le_trans hB c.size) hsa k k0 (by omega) m1).mono ?_
 rintro e w2 ⟨rfl, b⟩
 replace c := c.trans (b.mono c.size)
 replace S := S.keep b
 clear b
 have q0 : ¬ (k + (t.a.n : Int) < 0) := by omega
 have f0 := lk S 0 2 rfl rfl
 have f1 := lk S 0 3 rfl rfl
 go_wp2_with fail
 refine (heldDisk_any _ _ t.b _ _ (hb.keep (c.mono hB)) (Nat.le_trans hB c.size) hsb _ (by omega) (by omega) m2).mono ?_
 rintro e w3 ⟨rfl, b⟩
 replace c := c.trans (b.mono c.size)
 replace S := S.keep b
 clear b f0 f1
 have q1 : ¬ (k + (t.a.n : Int) + (t.b.n : Int) < 0) := by omega
 have C := jd c
 have HN := jd hna
 clear S c ha hb h m1 m2 hna
 go_wp2
 go_ret
 refine ⟨congrArg Ending.returned (congrArg (Value.int .i64) ?_), C.out⟩
 rw [HN.out]
 omega
set_option maxHeartbeats 3200000 in
theorem szTwo_any (v0 v1 v2 v3 : Value) (t : TwoM) (B : Nat) (L : Int) (w : World) (h : Rd w B t.cells [v0, v1, v2, v3]) (hB : B ≤ w.heap.size) (l0 : 0 ≤ L) (l1 : L ≤ 1048576) :
    Calls Tryz.prog 23 #[.agg #[v0, v1, v2, v3], .int .i64 L] w fun e w' => e = .returned (.int .i64 (left L t.sz)) ∧ Below w.heap.size w w' := by
 obtain ⟨Aa0, na0, ca0, Aa1, na1, ca1, Aa2, na2, ca2, Aa3, na3, ca3, rfl, rfl, rfl, rfl⟩ := h.slices
 obtain ⟨ha, hb⟩ := h.halves
 have HD := jd (show t.sz = t.a.sz + t.b.sz from rfl)
 by_cases h1 : (t.a.sz : Int) ≤ L
 case neg =>
  have S := Sep.nil w w.heap.size
  have c := Below.refl w.heap.size w
  replace S := S.boxAt c.size (w.heap.size) rfl #[.slice Aa0 na0 ca0, .slice Aa1 na1 ca1, .slice Aa2 na2 ca2, .slice Aa3 na3 ca3] 27
  replace c := al c S
  go_enter Tryz.func23, Tryz.ntmps23
  go_wp2_with fail
  generalize w.alloc (.cells #[.slice Aa0 na0 ca0, .slice Aa1 na1 ca1, .slice Aa2 na2 ca2, .slice Aa3 na3 ca3] 27) = w1 at *
  refine (szDisk_any _ _ t.a _ _ _ (ha.keep (c.mono hB)) (Nat.le_trans hB c.size) l0 l1).mono ?_
  rintro e w2 ⟨rfl, b⟩
  replace c := c.trans (b.mono c.size)
  replace S := S.keep b
  clear b
  rw [left, if_neg (by omega)]
  have C := jd c
  clear S c ha hb h
  go_wp2
  go_ret
  refine ⟨ret_i64 ?_, C.out⟩
  rw [left, HD.out, if_neg (by omega)]
 by_cases h2 : (t.b.sz : Int) ≤ L - (t.a.sz : Int)
 case neg =>
  have S := Sep.nil w w.heap.size
  have c := Below.refl w.heap.size w
  replace S := S.boxAt c.size (w.heap.size) rfl #[.slice Aa0 na0 ca0, .slice Aa1 na1 ca1, .slice Aa2 na2 ca2, .slice Aa3 na3 ca3] 27
  replace c := al c S
  go_enter Tryz.func23, Tryz.ntmps23
  go_wp2_with fail
  generalize w.alloc (.cells #[.slice Aa0 na0 ca0, .slice Aa1 na1 ca1, .slice Aa2 na2 ca2, .slice Aa3 na3 ca3] 27) = w1 at *
  refine (szDisk_any _ _ t.a _ _ _ (ha.keep (c.mono hB)) (Nat.le_trans hB c.size) l0 l1).mono ?_
  rintro e w2 ⟨rfl, b⟩
  replace c := c.trans (b.mono c.size)
  replace S := S.keep b
  clear b
  rw [left, if_pos (by omega)]
  have q0 : ¬ (L - (t.a.sz : Int) < 0) := by omega
  have f0 := lk S 0 2 rfl rfl
  have f1 := lk S 0 3 rfl rfl
  go_wp2_with fail
  refine (szDisk_any _ _ t.b _ _ _ (hb.keep (c.mono hB)) (Nat.le_trans hB c.size) (by omega) (by omega)).mono ?_
  rintro e w3 ⟨rfl, b⟩
  replace c := c.trans (b.mono c.size)
  replace S := S.keep b
  clear b f0 f1
  rw [left, if_neg (by omega)]
  have C := jd c
  clear S c ha hb h
  go_wp2
  go_ret
  refine ⟨ret_i64 ?_, C.out⟩
  rw [left, HD.out, if_neg (by omega)]
 case pos =>
  have S := Sep.nil w w.heap.size
  have c := Below.refl w.heap.size w
  replace S := S.boxAt c.size (w.heap.size) rfl #[.slice Aa0 na0 ca0, .slice Aa1 na1 ca1, .slice Aa2 na2 ca2, .slice Aa3 na3 ca3] 27
  replace c := al c S
  go_enter Tryz.func23, Tryz.ntmps23
  go_wp2_with fail
  generalize w.alloc (.cells #[.slice Aa0 na0 ca0, .slice Aa1 na1 ca1, .slice Aa2 na2 ca2, .slice Aa3 na3 ca3] 27) = w1 at *
  refine (szDisk_any _ _ t.a _ _ _ (ha.keep (c.mono hB)) (Nat.le_trans hB c.size) l0 l1).mono ?_
  rintro e w2 ⟨rfl, b⟩
  replace c := c.trans (b.mono c.size)
  replace S := S.keep b
  clear b
  rw [left, if_pos (by omega)]
  have q0 : ¬ (L - (t.a.sz : Int) < 0) := by omega
  have f0 := lk S 0 2 rfl rfl
  have f1 := lk S 0 3 rfl rfl
  go_wp2_with fail
  refine (szDisk_any _ _ t.b _ _ _ (hb.keep (c.mono hB)) (Nat.le_trans hB c.size) (by omega) (by omega)).mono ?_
  rintro e w3 ⟨rfl, b⟩
  replace c := c.trans (b.mono c.size)
  replace S := S.keep b
  clear b f0 f1
  rw [left, if_pos (by omega)]
  have q1 : ¬ (L - (t.a.sz : Int) - (t.b.sz : Int) < 0) := by omega
  have C := jd c
  clear S c ha hb h
  go_wp2
  go_ret
  refine ⟨ret_i64 ?_, C.out⟩
  rw [left, HD.out, if_pos (by omega)]
  omega
end Go.Proofs.YthjjdelpdiipdaaGreatDoor
namespace Go.Proofs.YthjjdelpdiipdaaGreatDoor
set_option maxRecDepth 100000
open Go.RowKit
def twoOk (t : TwoM) : Bool := diskOk t.a && (diskOk t.b && decide (t.a.kept.length = t.b.kept.length))
theorem twoOk_iff {t : TwoM} : twoOk t = true ↔ diskOk t.a = true ∧ diskOk t.b = true ∧ t.a.kept.length = t.b.kept.length := by
 unfold twoOk
 simp only [Bool.and_eq_true, decide_eq_true_eq]
theorem twoOk_no {t : TwoM} (h : ¬ (diskOk t.a = true ∧ diskOk t.b = true ∧ t.a.kept.length = t.b.kept.length)) : twoOk t = false := by
 cases hd : twoOk t
 · rfl
 · exact absurd (twoOk_iff.1 hd) h
/-! ### Valid pairs stay valid -/
/-! ### Sizes -/
/-! ### Every second number -/
end Go.Proofs.YthjjdelpdiipdaaGreatDoor
namespace Go.Proofs.YthjjdelpdiipdaaGreatDoor
set_option maxRecDepth 100000
open Go.RowKit
end Go.Proofs.YthjjdelpdiipdaaGreatDoor
namespace Go.Proofs.YthjjdelpdiipdaaGreatDoor
set_option maxRecDepth 100000
open Go.RowKit
end Go.Proofs.YthjjdelpdiipdaaGreatDoor
namespace Go.Proofs.YthjjdelpdiipdaaGreatDoor
set_option maxRecDepth 100000
set_option linter.unusedVariables false
open Go.RowKit
theorem Rd.twoT {w : World} {B : Nat} {t : TwoM} {v0 v1 v2 v3 : Value} (h : Rd w B t.cells [v0, v1, v2, v3]) : ∃ (A0 : Option Addr) (n0 c0 : Nat) (A1 : Option Addr) (n1 c1 : Nat) (A2 : Option Addr) (n2 c2 : Nat) (A3 : Option Addr) (n3 c3 : Nat), v0 = .slice A0 n0 c0 ∧ v1 = .slice A1 n1 c1 ∧ v2 = .slice A2 n2 c2 ∧ v3 = .slice A3 n3 c3 ∧ True := by
 obtain ⟨A0, n0, c0, A1, n1, c1, A2, n2, c2, A3, n3, c3, e0, e1, e2, e3⟩ := h.slices
 exact ⟨A0, n0, c0, A1, n1, c1, A2, n2, c2, A3, n3, c3, e0, e1, e2, e3, trivial⟩
theorem two_n9 (t : TwoM) : t.n ≤ 9 * t.sz := by
 have h1 := nums_le_rows t.a.kept
 have h2 := nums_le_wait t.a.wait
 have h3 := nums_le_rows t.b.kept
 have h4 := nums_le_wait t.b.wait
 unfold TwoM.sz DiskM.sz
 unfold TwoM.n DiskM.n
 omega
end Go.Proofs.YthjjdelpdiipdaaGreatDoor

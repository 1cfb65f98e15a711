/- Parts of my texts: KT LawKeptOk. -/
import Derived.Test.YtecihkkagpbkdaaK2
import Derived.Test.YtecihkkagpbkdaaK3
import Derived.Deep.RegionHeld3
namespace Go.Proofs.Ytecihkkagpbkdaa
set_option maxRecDepth 100000
set_option linter.unusedVariables false
open Go.RowKit
structure TwoM where
 a : DiskM
 b : DiskM
def TwoM.cells (t : TwoM) : List Dat := t.a.cells ++ t.b.cells
def TwoM.sz (t : TwoM) : Nat := t.a.sz + t.b.sz
def TwoM.n (t : TwoM) : Nat := t.a.n + t.b.n
def MarkedT (t : TwoM) (k : Int) : Prop := MarkedD t.a k ∧ MarkedD t.b (k + (t.a.n : Int))
def MadeT (w : World) (t : TwoM) (e : Ending) (w' : World) : Prop :=
 ∃ A0 n0 c0 A1 n1 c1 A2 n2 c2 A3 n3 c3, e = .returned (.agg #[.slice A0 n0 c0, .slice A1 n1 c1, .slice A2 n2 c2, .slice A3 n3 c3]) ∧ Has w' w.heap.size t.cells [.slice A0 n0 c0, .slice A1 n1 c1, .slice A2 n2 c2, .slice A3 n3 c3] ∧ Below w.heap.size w w'
section
variable {w : World} {B : Nat} {t : TwoM} {v0 v1 v2 v3 : Value}
theorem Rd.halves (h : Rd w B t.cells [v0, v1, v2, v3]) : Rd w B t.a.cells [v0, v1] ∧ Rd w B t.b.cells [v2, v3] := Rd.cut (vs := [v0, v1]) (vs' := [v2, v3]) h rfl
theorem Rd.slices (h : Rd w B t.cells [v0, v1, v2, v3]) : ∃ A0 n0 c0 A1 n1 c1 A2 n2 c2 A3 n3 c3, v0 = .slice A0 n0 c0 ∧ v1 = .slice A1 n1 c1 ∧ v2 = .slice A2 n2 c2 ∧ v3 = .slice A3 n3 c3 := by
 obtain ⟨h1, h2⟩ := h.halves
 obtain ⟨A0, n0, c0, A1, n1, c1, rfl, rfl, _⟩ := h1.disk
 obtain ⟨A2, n2, c2, A3, n3, c3, rfl, rfl, _⟩ := h2.disk
 exact ⟨A0, n0, c0, A1, n1, c1, A2, n2, c2, A3, n3, c3, rfl, rfl, rfl, rfl⟩
end
theorem two_n_le (t : TwoM) (h : t.sz ≤ 1048577) : t.n ≤ 2097154 := by
 have h1 := nums_le_rows t.a.kept
 have h2 := nums_le_wait t.a.wait
 have h3 := nums_le_rows t.b.kept
 have h4 := nums_le_wait t.b.wait
 unfold TwoM.sz DiskM.sz at h
 unfold TwoM.n DiskM.n
 omega
set_option maxHeartbeats 3200000 in
theorem toTwo_made (v0 v1 v2 v3 : Value) (t : TwoM) (w : World) (h : Rd w w.heap.size t.cells [v0, v1, v2, v3]) (hs : t.sz ≤ 1048576) : Calls Try.prog 10 #[.agg #[v0, v1, v2, v3]] w (MadeT w t) := by
 obtain ⟨Aa0, na0, ca0, Aa1, na1, ca1, Aa2, na2, ca2, Aa3, na3, ca3, rfl, rfl, rfl, rfl⟩ := h.slices
 obtain ⟨ha, hb⟩ := h.halves
 have S := Sep.nil w w.heap.size
 have c := Below.refl w.heap.size w
 replace S := S.boxAt c.size (w.heap.size) rfl #[.slice Aa0 na0 ca0, .slice Aa1 na1 ca1, .slice Aa2 na2 ca2, .slice Aa3 na3 ca3] 27
 replace c := al c S
 replace S := S.boxAt c.size (w.heap.size + 1) (by simp) #[.slice none 0 0, .slice none 0 0, .slice none 0 0, .slice none 0 0] 34
 replace c := al c S
 replace S := S.boxAt c.size (w.heap.size + 1 + 1) (by simp) #[.slice none 0 0, .slice none 0 0, .slice none 0 0, .slice none 0 0] 34
 replace c := al c S
 go_enter Try.func10, Try.ntmps10
 go_wp2_with fail
 generalize ((w.alloc (.cells #[.slice Aa0 na0 ca0, .slice Aa1 na1 ca1, .slice Aa2 na2 ca2, .slice Aa3 na3 ca3] 27)).alloc (.cells #[.slice none 0 0, .slice none 0 0, .slice none 0 0, .slice none 0 0] 34)).alloc (.cells #[.slice none 0 0, .slice none 0 0, .slice none 0 0, .slice none 0 0] 34) = w1 at *
 refine (toDisk_made _ _ t.a _ ((ha.keep c).up c.size) (by unfold TwoM.sz at hs; omega)).mono ?_
 rintro e w2 ⟨Au0, nu0, cu0, Au1, nu1, cu1, rfl, o, b⟩
 obtain ⟨fp_u, S'⟩ := S.has b o c.size
 replace c := c.trans (b.mono c.size)
 clear S; have S := S'; clear S' o b
 have f0 := lk S 1 0 rfl rfl
 have f1 := (S.at_ 1 rfl).free 0
 have f2 := lk S 1 1 rfl rfl
 have f3 := (S.at_ 1 rfl).free 1
 replace S := S.put 1 rfl 0 (.slice Au0 nu0 cu0)
 replace c := st c S (by omega)
 replace S := S.put 1 rfl 1 (.slice Au1 nu1 cu1)
 replace c := st c S (by omega)
 have f4 := lk S 3 2 rfl rfl
 have f5 := lk S 3 3 rfl rfl
 go_wp2_with fail
 generalize (w2.setCell ⟨w.heap.size + 1 + 1, 0, none⟩ (.slice Au0 nu0 cu0)).setCell ⟨w.heap.size + 1 + 1, 1, none⟩ (.slice Au1 nu1 cu1) = w3 at *
 refine (toDisk_made _ _ t.b _ ((hb.keep c).up c.size) (by unfold TwoM.sz at hs; omega)).mono ?_
 rintro e w4 ⟨Ax0, nx0, cx0, Ax1, nx1, cx1, rfl, o, b⟩
 obtain ⟨fp_x, S'⟩ := S.has b o c.size
 replace c := c.trans (b.mono c.size)
 clear S; have S := S'; clear S' o b f0 f1 f2 f3 f4 f5
 have f6 := lk S 2 2 rfl rfl
 have f7 := (S.at_ 2 rfl).free 2
 have f8 := lk S 2 3 rfl rfl
 have f9 := (S.at_ 2 rfl).free 3
 have f10 := lk S 2 0 rfl rfl
 have f11 := lk S 2 1 rfl rfl
 have f12 := lk S 3 0 rfl rfl
 have f13 := (S.at_ 3 rfl).free 0
 have f14 := lk S 3 1 rfl rfl
 have f15 := (S.at_ 3 rfl).free 1
 have f16 := lk S 3 2 rfl rfl
 have f17 := (S.at_ 3 rfl).free 2
 have f18 := lk S 3 3 rfl rfl
 have f19 := (S.at_ 3 rfl).free 3
 replace S := S.put 2 rfl 2 (.slice Ax0 nx0 cx0)
 replace c := st c S (by omega)
 replace S := S.put 2 rfl 3 (.slice Ax1 nx1 cx1)
 replace c := st c S (by omega)
 replace S := S.put 3 rfl 0 (.slice Au0 nu0 cu0)
 replace c := st c S (by omega)
 replace S := S.put 3 rfl 1 (.slice Au1 nu1 cu1)
 replace c := st c S (by omega)
 replace S := S.put 3 rfl 2 (.slice Ax0 nx0 cx0)
 replace c := st c S (by omega)
 replace S := S.put 3 rfl 3 (.slice Ax1 nx1 cx1)
 replace c := st c S (by omega)
 have H := jd S.pair
 have C := jd c
 clear S c ha hb h
 go_wp2
 exact bodyPost_ret (v := .agg #[.slice Au0 nu0 cu0, .slice Au1 nu1 cu1, .slice Ax0 nx0 cx0, .slice Ax1 nx1 cx1]) (by simp [results, Try.results10, go_sem, f12, f14, f16, f18]) rfl ⟨_, _, _, _, _, _, _, _, _, _, _, _, rfl, H.out, C.out⟩
set_option maxHeartbeats 3200000 in
theorem eqTwo_yes (v0 v1 v2 v3 u0 u1 u2 u3 : Value) (B B' : Nat) (t : TwoM) (w : World) (h : Rd w B t.cells [v0, v1, v2, v3]) (h' : Rd w B' t.cells [u0, u1, u2, u3]) (hB : B ≤ w.heap.size) (hB' : B' ≤ w.heap.size) (hs : t.sz ≤ 1048577) :
    Calls Try.prog 12 #[.agg #[v0, v1, v2, v3], .agg #[u0, u1, u2, u3]] w fun e w' => e = .returned (.bool true) ∧ Below w.heap.size w w' := by
 obtain ⟨Aa0, na0, ca0, Aa1, na1, ca1, Aa2, na2, ca2, Aa3, na3, ca3, rfl, rfl, rfl, rfl⟩ := h.slices
 obtain ⟨Ab0, nb0, cb0, Ab1, nb1, cb1, Ab2, nb2, cb2, Ab3, nb3, cb3, rfl, rfl, rfl, rfl⟩ := h'.slices
 obtain ⟨ha, hb⟩ := h.halves
 obtain ⟨ka, kb⟩ := h'.halves
 have S := Sep.nil w w.heap.size
 have c := Below.refl w.heap.size w
 replace S := S.boxAt c.size (w.heap.size) rfl #[.slice Aa0 na0 ca0, .slice Aa1 na1 ca1, .slice Aa2 na2 ca2, .slice Aa3 na3 ca3] 34
 replace c := al c S
 replace S := S.boxAt c.size (w.heap.size + 1) (by simp) #[.slice Ab0 nb0 cb0, .slice Ab1 nb1 cb1, .slice Ab2 nb2 cb2, .slice Ab3 nb3 cb3] 34
 replace c := al c S
 go_enter Try.func12, Try.ntmps12
 go_wp2_with fail
 generalize (w.alloc (.cells #[.slice Aa0 na0 ca0, .slice Aa1 na1 ca1, .slice Aa2 na2 ca2, .slice Aa3 na3 ca3] 34)).alloc (.cells #[.slice Ab0 nb0 cb0, .slice Ab1 nb1 cb1, .slice Ab2 nb2 cb2, .slice Ab3 nb3 cb3] 34) = w1 at *
 refine (eqDisk_yes _ _ _ _ _ _ t.a _ (ha.keep (c.mono hB)) (ka.keep (c.mono hB')) (Nat.le_trans hB c.size) (Nat.le_trans hB' c.size) (by unfold TwoM.sz at hs; omega)).mono ?_
 rintro e w2 ⟨rfl, b⟩
 replace c := c.trans (b.mono c.size)
 replace S := S.keep b
 clear b
 have f0 := lk S 1 2 rfl rfl
 have f1 := lk S 1 3 rfl rfl
 have f2 := lk S 0 2 rfl rfl
 have f3 := lk S 0 3 rfl rfl
 go_wp2_with fail
 refine (eqDisk_yes _ _ _ _ _ _ t.b _ (hb.keep (c.mono hB)) (kb.keep (c.mono hB')) (Nat.le_trans hB c.size) (Nat.le_trans hB' c.size) (by unfold TwoM.sz at hs; omega)).mono ?_
 rintro e w3 ⟨rfl, b⟩
 replace c := c.trans (b.mono c.size)
 replace S := S.keep b
 clear b f0 f1 f2 f3
 have C := jd c
 clear S c ha hb ka kb h h'
 go_wp2
 go_ret
 exact ⟨rfl, C.out⟩
set_option maxHeartbeats 3200000 in
theorem markTwo_any (v0 v1 v2 v3 : Value) (t : TwoM) (fp : List Nat) (w : World) (o : Ow w t.cells [v0, v1, v2, v3] fp) (hnd : fp.Nodup) (hs : t.sz ≤ 1048577) (k : Int) (k0 : 0 ≤ k) (k1 : k ≤ 90000000000) :
    Calls Try.prog 15 #[.agg #[v0, v1, v2, v3], .int .i64 k] w fun e w' => ∃ t', e = .returned (.int .i64 (k + (t.n : Int))) ∧ Ow w' t'.cells [v0, v1, v2, v3] fp ∧ Touch fp w w' ∧ MarkedT t' k ∧ t'.n = t.n ∧ t'.sz = t.sz := by
 obtain ⟨Aa0, na0, ca0, Aa1, na1, ca1, Aa2, na2, ca2, Aa3, na3, ca3, rfl, rfl, rfl, rfl⟩ := o.rd.slices
 have S := Sep.nil w w.heap.size
 have c := Below.refl w.heap.size w
 obtain ⟨f1, f2, rfl, o1, o2⟩ := Ow.cut (vs := [.slice Aa0 na0 ca0, .slice Aa1 na1 ca1]) (vs' := [.slice Aa2 na2 ca2, .slice Aa3 na3 ca3]) o rfl
 have hlt := o.lt
 rw [List.nodup_append] at hnd
 obtain ⟨hn1, hn2, hdis⟩ := hnd
 have hk := two_n_le t hs
 have hna : t.n = t.a.n + t.b.n := rfl
 have hsa : t.a.sz ≤ 1048577 := by unfold TwoM.sz at hs; omega
 have hsb : t.b.sz ≤ 1048577 := by unfold TwoM.sz at hs; omega
 clear o
 replace S := S.boxAt c.size (w.heap.size) rfl #[.slice Aa0 na0 ca0, .slice Aa1 na1 ca1, .slice Aa2 na2 ca2, .slice Aa3 na3 ca3] 34
 replace c := al c S
 replace o1 := o1.keep ((Below.refl _ _).alloc (Nat.le_refl _) (.cells #[.slice Aa0 na0 ca0, .slice Aa1 na1 ca1, .slice Aa2 na2 ca2, .slice Aa3 na3 ca3] 34))
 replace o2 := o2.keep ((Below.refl _ _).alloc (Nat.le_refl _) (.cells #[.slice Aa0 na0 ca0, .slice Aa1 na1 ca1, .slice Aa2 na2 ca2, .slice Aa3 na3 ca3] 34))
 have p0 := S.at_ 0 rfl
 clear S
 go_enter Try.func15, Try.ntmps15
 go_wp2_with fail
 generalize w.alloc (.cells #[.slice Aa0 na0 ca0, .slice Aa1 na1 ca1, .slice Aa2 na2 ca2, .slice Aa3 na3 ca3] 34) = w1 at *
 refine (markDisk_any _ _ t.a f1 _ o1 hn1 hsa k k0 (by omega)).mono ?_
 rintro e w2 ⟨d1, rfl, q1, t1, m1, en1, es1⟩
 have q2 := o2.touch t1 (fun p hp hm => hdis p hm p hp rfl)
 have p1 := p0.touch t1 (fun hm => by have := hlt _ (List.mem_append_left _ hm); omega)
 have c2 : w2.cell? ⟨w.heap.size, 2, none⟩ = some (.slice Aa2 na2 ca2) := p1.cell 2
 have c3 : w2.cell? ⟨w.heap.size, 3, none⟩ = some (.slice Aa3 na3 ca3) := p1.cell 3
 clear p0 p1 o1 o2
 go_wp2_with fail
 refine (markDisk_any _ _ t.b f2 _ q2 hn2 hsb _ (by omega) (by omega)).mono ?_
 rintro e w3 ⟨d2, rfl, r2, t2, m2, en2, es2⟩
 have r1 := q1.touch t2 (fun p hp hm => hdis p hp p hm rfl)
 have T := jd (((Touch.of_below c (f1 ++ f2)).trans (t1.mono fun p hp => List.mem_append_left _ hp)).trans (t2.mono fun p hp => List.mem_append_right _ hp))
 have R := jd (Ow.append r1 r2)
 have M1 := jd m1
 have M2 := jd m2
 have E := jd (And.intro (And.intro en1 es1) (And.intro en2 es2))
 clear q1 q2 r1 r2 t1 t2 m1 m2 c2 c3 en1 en2 es1 es2 c
 go_wp2
 go_ret
 obtain ⟨⟨en1, es1⟩, en2, es2⟩ := E.out
 refine ⟨⟨d1, d2⟩, ?_, R.out, T.out, ⟨M1.out, ?_⟩, ?_, ?_⟩
 · refine congrArg Ending.returned (congrArg (Value.int .i64) ?_)
   omega
 · show MarkedD d2 (k + (d1.n : Int))
   rw [en1]
   exact M2.out
 · show d1.n + d2.n = t.a.n + t.b.n
   omega
 · show d1.sz + d2.sz = t.a.sz + t.b.sz
   omega
set_option maxHeartbeats 3200000 in
theorem heldTwo_any (v0 v1 v2 v3 : Value) (t : TwoM) (B : Nat) (w : World) (h : Rd w B t.cells [v0, v1, v2, v3]) (hB : B ≤ w.heap.size) (hs : t.sz ≤ 1048577) (k : Int) (k0 : 0 ≤ k) (k1 : k ≤ 90000000000) (hm : MarkedT t k) :
    Calls Try.prog 16 #[.agg #[v0, v1, v2, v3], .int .i64 k] w fun e w' => e = .returned (.int .i64 (k + (t.n : Int))) ∧ Below w.heap.size w w' := by
 obtain ⟨Aa0, na0, ca0, Aa1, na1, ca1, Aa2, na2, ca2, Aa3, na3, ca3, rfl, rfl, rfl, rfl⟩ := h.slices
 obtain ⟨ha, hb⟩ := h.halves
 have S := Sep.nil w w.heap.size
 have c := Below.refl w.heap.size w
 have hk := two_n_le t hs
 have hna : t.n = t.a.n + t.b.n := rfl
 have hsa : t.a.sz ≤ 1048577 := by unfold TwoM.sz at hs; omega
 have hsb : t.b.sz ≤ 1048577 := by unfold TwoM.sz at hs; omega
 obtain ⟨m1, m2⟩ := hm
 replace S := S.boxAt c.size (w.heap.size) rfl #[.slice Aa0 na0 ca0, .slice Aa1 na1 ca1, .slice Aa2 na2 ca2, .slice Aa3 na3 ca3] 34
 replace c := al c S
 go_enter Try.func16, Try.ntmps16
 go_wp2_with fail
 generalize w.alloc (.cells #[.slice Aa0 na0 ca0, .slice Aa1 na1 ca1, .slice Aa2 na2 ca2, .slice Aa3 na3 ca3] 34) = w1 at *
 refine (heldDisk_any _ _ t.a _ _ (ha.keep (c.mono hB)) (Nat.le_trans hB c.size) hsa k k0 (by omega) m1).mono ?_
 rintro e w2 ⟨rfl, b⟩
 replace c := c.trans (b.mono c.size)
 replace S := S.keep b
 clear b
 have q0 : ¬ (k + (t.a.n : Int) < 0) := by omega
 have f0 := lk S 0 2 rfl rfl
 have f1 := lk S 0 3 rfl rfl
 go_wp2_with fail
 refine (heldDisk_any _ _ t.b _ _ (hb.keep (c.mono hB)) (Nat.le_trans hB c.size) hsb _ (by omega) (by omega) m2).mono ?_
 rintro e w3 ⟨rfl, b⟩
 replace c := c.trans (b.mono c.size)
 replace S := S.keep b
 clear b f0 f1
 have q1 : ¬ (k + (t.a.n : Int) + (t.b.n : Int) < 0) := by omega
 have C := jd c
 have HN := jd hna
 clear S c ha hb h m1 m2 hna
 go_wp2
 go_ret
 refine ⟨congrArg Ending.returned (congrArg (Value.int .i64) ?_), C.out⟩
 rw [HN.out]
 omega
set_option maxHeartbeats 3200000 in
theorem szTwo_any (v0 v1 v2 v3 : Value) (t : TwoM) (B : Nat) (L : Int) (w : World) (h : Rd w B t.cells [v0, v1, v2, v3]) (hB : B ≤ w.heap.size) (l0 : 0 ≤ L) (l1 : L ≤ 1048576) :
    Calls Try.prog 8 #[.agg #[v0, v1, v2, v3], .int .i64 L] w fun e w' => e = .returned (.int .i64 (left L t.sz)) ∧ Below w.heap.size w w' := by
 obtain ⟨Aa0, na0, ca0, Aa1, na1, ca1, Aa2, na2, ca2, Aa3, na3, ca3, rfl, rfl, rfl, rfl⟩ := h.slices
 obtain ⟨ha, hb⟩ := h.halves
 have HD := jd (show t.sz = t.a.sz + t.b.sz from rfl)
 by_cases h1 : (t.a.sz : Int) ≤ L
 case neg =>
  have S := Sep.nil w w.heap.size
  have c := Below.refl w.heap.size w
  replace S := S.boxAt c.size (w.heap.size) rfl #[.slice Aa0 na0 ca0, .slice Aa1 na1 ca1, .slice Aa2 na2 ca2, .slice Aa3 na3 ca3] 27
  replace c := al c S
  go_enter Try.func8, Try.ntmps8
  go_wp2_with fail
  generalize w.alloc (.cells #[.slice Aa0 na0 ca0, .slice Aa1 na1 ca1, .slice Aa2 na2 ca2, .slice Aa3 na3 ca3] 27) = w1 at *
  refine (szDisk_any _ _ t.a _ _ _ (ha.keep (c.mono hB)) (Nat.le_trans hB c.size) l0 l1).mono ?_
  rintro e w2 ⟨rfl, b⟩
  replace c := c.trans (b.mono c.size)
  replace S := S.keep b
  clear b
  rw [left, if_neg (by omega)]
  have C := jd c
  clear S c ha hb h
  go_wp2
  go_ret
  refine ⟨ret_i64 ?_, C.out⟩
  rw [left, HD.out, if_neg (by omega)]
 by_cases h2 : (t.b.sz : Int) ≤ L - (t.a.sz : Int)
 case neg =>
  have S := Sep.nil w w.heap.size
  have c := Below.refl w.heap.size w
  replace S := S.boxAt c.size (w.heap.size) rfl #[.slice Aa0 na0 ca0, .slice Aa1 na1 ca1, .slice Aa2 na2 ca2, .slice Aa3 na3 ca3] 27
  replace c := al c S
  go_enter Try.func8, Try.ntmps8
  go_wp2_with fail
  generalize w.alloc (.cells #[.slice Aa0 na0 ca0, .slice Aa1 na1 ca1, .slice Aa2 na2 ca2, .slice Aa3 na3 ca3] 27) = w1 at *
  refine (szDisk_any _ _ t.a _ _ _ (ha.keep (c.mono hB)) (Nat.le_trans hB c.size) l0 l1).mono ?_
  rintro e w2 ⟨rfl, b⟩
  replace c := c.trans (b.mono c.size)
  replace S := S.keep b
  clear b
  rw [left, if_pos (by omega)]
  have q0 : ¬ (L - (t.a.sz : Int) < 0) := by omega
  have f0 := lk S 0 2 rfl rfl
  have f1 := lk S 0 3 rfl rfl
  go_wp2_with fail
  refine (szDisk_any _ _ t.b _ _ _ (hb.keep (c.mono hB)) (Nat.le_trans hB c.size) (by omega) (by omega)).mono ?_
  rintro e w3 ⟨rfl, b⟩
  replace c := c.trans (b.mono c.size)
  replace S := S.keep b
  clear b f0 f1
  rw [left, if_neg (by omega)]
  have C := jd c
  clear S c ha hb h
  go_wp2
  go_ret
  refine ⟨ret_i64 ?_, C.out⟩
  rw [left, HD.out, if_neg (by omega)]
 case pos =>
  have S := Sep.nil w w.heap.size
  have c := Below.refl w.heap.size w
  replace S := S.boxAt c.size (w.heap.size) rfl #[.slice Aa0 na0 ca0, .slice Aa1 na1 ca1, .slice Aa2 na2 ca2, .slice Aa3 na3 ca3] 27
  replace c := al c S
  go_enter Try.func8, Try.ntmps8
  go_wp2_with fail
  generalize w.alloc (.cells #[.slice Aa0 na0 ca0, .slice Aa1 na1 ca1, .slice Aa2 na2 ca2, .slice Aa3 na3 ca3] 27) = w1 at *
  refine (szDisk_any _ _ t.a _ _ _ (ha.keep (c.mono hB)) (Nat.le_trans hB c.size) l0 l1).mono ?_
  rintro e w2 ⟨rfl, b⟩
  replace c := c.trans (b.mono c.size)
  replace S := S.keep b
  clear b
  rw [left, if_pos (by omega)]
  have q0 : ¬ (L - (t.a.sz : Int) < 0) := by omega
  have f0 := lk S 0 2 rfl rfl
  have f1 := lk S 0 3 rfl rfl
  go_wp2_with fail
  refine (szDisk_any _ _ t.b _ _ _ (hb.keep (c.mono hB)) (Nat.le_trans hB c.size) (by omega) (by omega)).mono ?_
  rintro e w3 ⟨rfl, b⟩
  replace c := c.trans (b.mono c.size)
  replace S := S.keep b
  clear b f0 f1
  rw [left, if_pos (by omega)]
  have q1 : ¬ (L - (t.a.sz : Int) - (t.b.sz : Int) < 0) := by omega
  have C := jd c
  clear S c ha hb h
  go_wp2
  go_ret
  refine ⟨ret_i64 ?_, C.out⟩
  rw [left, HD.out, if_pos (by omega)]
  omega
end Go.Proofs.Ytecihkkagpbkdaa
namespace Go.Proofs.Ytecihkkagpbkdaa
set_option maxRecDepth 100000
open Go.RowKit
def zeroT : TwoM := ⟨zeroD, zeroD⟩
def twoOk (t : TwoM) : Bool := diskOk t.a && (diskOk t.b && decide (t.a.kept.length = t.b.kept.length))
def newTwo (n : Int) : TwoM := ⟨newDisk n, newDisk n⟩
def bothWrote (t : TwoM) (i : Int) (r : List Int) : TwoM × Bool :=
 if twoOk t = true then (if (withSum r).length ≠ 0 ∧ (wrote t.a i (withSum r)).2 = true ∧ (wrote t.b i (withSum r)).2 = true then (⟨(wrote t.a i (withSum r)).1, (wrote t.b i (withSum r)).1⟩, true) else (t, false)) else (zeroT, false)
def bothSynced (t : TwoM) : TwoM := if twoOk t = true then ⟨synced t.a, synced t.b⟩ else zeroT
def rightOf (d : DiskM) (i : Int) : List Int × Bool := unsummed (readAt d i).1
def rightAt (t : TwoM) (i : Int) : List (List Int) :=
 if twoOk t = true ∧ hasS t.a i = true then
  (if (rightOf t.a i).2 = true then [(rightOf t.a i).1] else []) ++ (if (rightOf t.b i).2 = true ∧ ¬ ((rightOf t.a i).2 = true ∧ (rightOf t.a i).1 = (rightOf t.b i).1) then [(rightOf t.b i).1] else [])
 else []
def mendedAt (t : TwoM) (i : Int) (r : List Int) : TwoM := if (bothWrote t i r).2 = true then bothSynced (bothWrote t i r).1 else (bothWrote t i r).1
theorem twoOk_iff {t : TwoM} : twoOk t = true ↔ diskOk t.a = true ∧ diskOk t.b = true ∧ t.a.kept.length = t.b.kept.length := by
 unfold twoOk
 simp only [Bool.and_eq_true, decide_eq_true_eq]
theorem ok_sz9 {d : DiskM} (h : diskOk d = true) : d.sz ≤ 4900 := by
 have h1 := rows_sz_le (ok_kept_len h) (diskOk_iff.1 h).1.2
 have h2 := wait_sz_le (fun p hp => (ok_wait h p hp).2) (diskOk_iff.1 h).2.1
 unfold DiskM.sz
 omega
theorem two_sz {t : TwoM} (ha : diskOk t.a = true) (hb : diskOk t.b = true) : t.sz ≤ 9800 := by
 have h1 := ok_sz9 ha
 have h2 := ok_sz9 hb
 unfold TwoM.sz
 omega
theorem twoOk_no {t : TwoM} (h : ¬ (diskOk t.a = true ∧ diskOk t.b = true ∧ t.a.kept.length = t.b.kept.length)) : twoOk t = false := by
 cases hd : twoOk t
 · rfl
 · exact absurd (twoOk_iff.1 hd) h
/-! ### Valid pairs stay valid -/
theorem wrote_len {d : DiskM} (h : diskOk d = true) (i : Int) (r : List Int) : (wrote d i r).1.kept.length = d.kept.length := by
 unfold wrote
 rw [if_pos h]
 split <;> rfl
theorem synced_lenT {d : DiskM} (h : diskOk d = true) : (synced d).kept.length = d.kept.length := by simp [synced, h, fall, fellTo_len]
theorem bothWrote_ok {t : TwoM} (h : twoOk t = true) (i : Int) (r : List Int) : twoOk (bothWrote t i r).1 = true := by
 obtain ⟨h1, h2, h3⟩ := twoOk_iff.1 h
 unfold bothWrote
 rw [if_pos h]
 split
 · exact twoOk_iff.2 ⟨wrote_ok h1 _ _, wrote_ok h2 _ _, by rw [wrote_len h1, wrote_len h2, h3]⟩
 · exact h
theorem bothSynced_ok {t : TwoM} (h : twoOk t = true) : twoOk (bothSynced t) = true := by
 obtain ⟨h1, h2, h3⟩ := twoOk_iff.1 h
 unfold bothSynced
 rw [if_pos h]
 exact twoOk_iff.2 ⟨synced_ok h1, synced_ok h2, by rw [synced_lenT h1, synced_lenT h2, h3]⟩
theorem newTwo_ok {n : Int} (h : secOk n = true) : twoOk (newTwo n) = true := twoOk_iff.2 ⟨newDisk_ok h, newDisk_ok h, rfl⟩
/-! ### Sizes -/
theorem zeroT_sz : zeroT.sz ≤ 1048577 := by decide
theorem ok_two_sz {t : TwoM} (h : twoOk t = true) : t.sz ≤ 9800 := two_sz (twoOk_iff.1 h).1 (twoOk_iff.1 h).2.1
theorem unsummed_len (xs : List Int) : (unsummed xs).1.length ≤ 48 := by
 unfold unsummed
 split
 · rename_i h
   have := rowOk_lenS h.1
   simp only [List.length_take]
   omega
 · simp
/-! ### Every second number -/
end Go.Proofs.Ytecihkkagpbkdaa
namespace Go.Proofs.Ytecihkkagpbkdaa
set_option maxRecDepth 100000
open Go.RowKit
end Go.Proofs.Ytecihkkagpbkdaa
namespace Go.Proofs.Ytecihkkagpbkdaa
set_option maxRecDepth 100000
open Go.RowKit
theorem own_lit_rows {w : World} {p : Nat} (hp : w.heap.size = p) : Has (w.alloc (.cells #[] 71)) w.heap.size [keptD []] [.slice (some ⟨p, 0, none⟩) 0 0] := by
 subst hp
 have h1 := World.ownsRow_lit (base := 0) (e := 71) (size := 1) w #[] 0 (Nat.zero_le _) (Nat.zero_le _) rfl
 have h2 : Ow (w.alloc (.cells #[] 71)) [keptD []] [.slice (some ⟨w.heap.size, 0, none⟩) 0 0] [w.heap.size] := Ow.row (fp1 := []) (fp2 := []) h1 .nil .nil
 exact ⟨_, h2, by simp, fun p hm => by have : p = w.heap.size := by simpa using hm
                                       omega⟩
end Go.Proofs.Ytecihkkagpbkdaa
namespace Go.Proofs.Ytecihkkagpbkdaa
set_option maxRecDepth 100000
set_option linter.unusedVariables false
open Go.RowKit
set_option maxHeartbeats 12800000 in
theorem lawKeptOk (f : TwoM → Bool)
    (hs : ∀ (Aa0_0 : Option Addr) (na0_0 ca0_0 : Nat) (Aa0_1 : Option Addr) (na0_1 ca0_1 : Nat) (Aa0_2 : Option Addr) (na0_2 ca0_2 : Nat) (Aa0_3 : Option Addr) (na0_3 ca0_3 : Nat) (d0 : TwoM) (w : World), Rd w w.heap.size (d0.cells) [.slice Aa0_0 na0_0 ca0_0, .slice Aa0_1 na0_1 ca0_1, .slice Aa0_2 na0_2 ca0_2, .slice Aa0_3 na0_3 ca0_3] → d0.sz ≤ 1048576 → Calls Try.prog 9 #[.agg #[.slice Aa0_0 na0_0 ca0_0, .slice Aa0_1 na0_1 ca0_1, .slice Aa0_2 na0_2 ca0_2, .slice Aa0_3 na0_3 ca0_3]] w (fun e w' => e = .returned (.bool (f d0)) ∧ Below w.heap.size w w'))
    (hi : ∀ (Aa0_0 : Option Addr) (na0_0 ca0_0 : Nat) (Aa0_1 : Option Addr) (na0_1 ca0_1 : Nat) (Aa0_2 : Option Addr) (na0_2 ca0_2 : Nat) (Aa0_3 : Option Addr) (na0_3 ca0_3 : Nat) (d0 : TwoM) (w : World), Rd w w.heap.size (d0.cells) [.slice Aa0_0 na0_0 ca0_0, .slice Aa0_1 na0_1 ca0_1, .slice Aa0_2 na0_2 ca0_2, .slice Aa0_3 na0_3 ca0_3] → d0.sz ≤ 1048576 → Calls Try.prog 11 #[.agg #[.slice Aa0_0 na0_0 ca0_0, .slice Aa0_1 na0_1 ca0_1, .slice Aa0_2 na0_2 ca0_2, .slice Aa0_3 na0_3 ca0_3]] w (fun e w' => e = .returned (.bool (f d0)) ∧ Below w.heap.size w w'))
    (Aa0_0 : Option Addr) (na0_0 ca0_0 : Nat) (Aa0_1 : Option Addr) (na0_1 ca0_1 : Nat) (Aa0_2 : Option Addr) (na0_2 ca0_2 : Nat) (Aa0_3 : Option Addr) (na0_3 ca0_3 : Nat) (d0 : TwoM) (w : World) (h0 : Rd w w.heap.size (d0.cells) [.slice Aa0_0 na0_0 ca0_0, .slice Aa0_1 na0_1 ca0_1, .slice Aa0_2 na0_2 ca0_2, .slice Aa0_3 na0_3 ca0_3]) :
    Calls Try.prog 3 #[.agg #[.slice Aa0_0 na0_0 ca0_0, .slice Aa0_1 na0_1 ca0_1, .slice Aa0_2 na0_2 ca0_2, .slice Aa0_3 na0_3 ca0_3]] w fun e w' => e = .returned (.bool true) ∧ Below w.heap.size w w' := by
 have SP := jd hs
 have IM := jd hi
 clear hs hi
 have S := Sep.nil w w.heap.size
 have c := Below.refl w.heap.size w
 replace S := S.box c.size #[.slice Aa0_0 na0_0 ca0_0, .slice Aa0_1 na0_1 ca0_1, .slice Aa0_2 na0_2 ca0_2, .slice Aa0_3 na0_3 ca0_3] 27
 replace c := al c S
 go_enter Try.func3, Try.ntmps3
 go_wp2_with fail
 generalize w.alloc (.cells #[.slice Aa0_0 na0_0 ca0_0, .slice Aa0_1 na0_1 ca0_1, .slice Aa0_2 na0_2 ca0_2, .slice Aa0_3 na0_3 ca0_3] 27) = w1 at *
 refine (szTwo_any _ _ _ _ d0 _ _ _ (h0.keep c) c.size (by omega) (by omega)).mono ?_
 rintro e w2 ⟨rfl, b⟩
 replace c := c.trans (b.mono c.size)
 replace S := S.keep b
 clear b
 by_cases hzi0 : ((d0.sz : Nat) : Int) ≤ 1048576
 case neg =>
  rw [left, if_neg hzi0]
  go_wp2
  go_ret
  exact ⟨rfl, c⟩
 rw [left, if_pos hzi0]
 have hz0 : d0.sz ≤ 1048576 := by omega
 have qz0 : ¬ ((1048576 : Int) - (d0.sz : Int) < 0) := by omega
 obtain ⟨fx0, hfx0⟩ : ∃ q, q = (f d0) := ⟨_, rfl⟩
 have HFX0 := jd hfx0
 clear hfx0
 have f0 := lk S 0 0 rfl rfl
 have f1 := lk S 0 1 rfl rfl
 have f2 := lk S 0 2 rfl rfl
 have f3 := lk S 0 3 rfl rfl
 go_wp2_with fail
 refine (toTwo_made _ _ _ _ d0 _ ((h0.keep c).up c.size) hz0).mono ?_
 rintro e w3 ⟨As0_0, ns0_0, cs0_0, As0_1, ns0_1, cs0_1, As0_2, ns0_2, cs0_2, As0_3, ns0_3, cs0_3, rfl, o, b⟩
 obtain ⟨fp_s0, S'⟩ := S.has b o c.size
 replace c := c.trans (b.mono c.size)
 clear S; have S := S'; clear S' o b f0 f1 f2 f3
 go_wp2_with fail
 refine (SP.out _ _ _ _ _ _ _ _ _ _ _ _ d0 _ ((S.own_ 0 rfl).rd) hz0).mono ?_
 rintro e w4 ⟨rfl, b⟩
 replace c := c.trans (b.mono c.size)
 replace S := S.keep b
 clear b
 rw [← HFX0.out]
 have f0 := lk S 1 0 rfl rfl
 have f1 := lk S 1 1 rfl rfl
 have f2 := lk S 1 2 rfl rfl
 have f3 := lk S 1 3 rfl rfl
 go_wp2_with fail
 refine (toTwo_made _ _ _ _ d0 _ ((h0.keep c).up c.size) hz0).mono ?_
 rintro e w5 ⟨Ax0_0, nx0_0, cx0_0, Ax0_1, nx0_1, cx0_1, Ax0_2, nx0_2, cx0_2, Ax0_3, nx0_3, cx0_3, rfl, o, b⟩
 obtain ⟨fp_x0, S'⟩ := S.has b o c.size
 replace c := c.trans (b.mono c.size)
 clear S; have S := S'; clear S' o b f0 f1 f2 f3
 replace S := S.box c.size #[.slice Ax0_0 nx0_0 cx0_0, .slice Ax0_1 nx0_1 cx0_1, .slice Ax0_2 nx0_2 cx0_2, .slice Ax0_3 nx0_3 cx0_3] 34
 replace c := al c S
 go_wp2_with fail
 generalize w5.alloc (.cells #[.slice Ax0_0 nx0_0 cx0_0, .slice Ax0_1 nx0_1 cx0_1, .slice Ax0_2 nx0_2 cx0_2, .slice Ax0_3 nx0_3 cx0_3] 34) = w6 at *
 refine (IM.out _ _ _ _ _ _ _ _ _ _ _ _ d0 _ ((S.own_ 1 rfl).rd) hz0).mono ?_
 rintro e w7 ⟨rfl, b⟩
 replace c := c.trans (b.mono c.size)
 replace S := S.keep b
 clear b
 rw [← HFX0.out]
 have f0 := lk S 0 0 rfl rfl
 have f1 := lk S 0 1 rfl rfl
 have f2 := lk S 0 2 rfl rfl
 have f3 := lk S 0 3 rfl rfl
 have f4 := lk S 3 0 rfl rfl
 have f5 := lk S 3 1 rfl rfl
 have f6 := lk S 3 2 rfl rfl
 have f7 := lk S 3 3 rfl rfl
 have SH := jd S
 have CH := jd c
 clear S c
 go_wp2_with fail
 go_region_held3 (fun v => v.cell? ⟨w5.heap.size, 0, none⟩ = some (.slice Ax0_0 nx0_0 cx0_0) ∧ v.cell? ⟨w5.heap.size, 1, none⟩ = some (.slice Ax0_1 nx0_1 cx0_1) ∧ v.cell? ⟨w5.heap.size, 2, none⟩ = some (.slice Ax0_2 nx0_2 cx0_2) ∧ v.cell? ⟨w5.heap.size, 3, none⟩ = some (.slice Ax0_3 nx0_3 cx0_3) ∧ v.cell? ⟨w.heap.size, 0, none⟩ = some (.slice Aa0_0 na0_0 ca0_0) ∧ v.cell? ⟨w.heap.size, 1, none⟩ = some (.slice Aa0_1 na0_1 ca0_1) ∧ v.cell? ⟨w.heap.size, 2, none⟩ = some (.slice Aa0_2 na0_2 ca0_2) ∧ v.cell? ⟨w.heap.size, 3, none⟩ = some (.slice Aa0_3 na0_3 ca0_3)) (go_keep)
  (first
   | (go_at_call 10
      refine (toTwo_made _ _ _ _ d0 _ ((h0.keep CH.out.drew).up CH.out.size) hz0).mono ?_
      rintro e w8 ⟨Az0_0, nz0_0, cz0_0, Az0_1, nz0_1, cz0_1, Az0_2, nz0_2, cz0_2, Az0_3, nz0_3, cz0_3, rfl, o, b⟩
      have S1 := (SH.out.keep ((Below.refl _ _).drew)).keep b
      have g0 : (w8).cell? ⟨w5.heap.size, 0, none⟩ = some (.slice Ax0_0 nx0_0 cx0_0) := (S1.at_ 0 rfl).cell 0
      have g1 : (w8).cell? ⟨w5.heap.size, 1, none⟩ = some (.slice Ax0_1 nx0_1 cx0_1) := (S1.at_ 0 rfl).cell 1
      have g2 : (w8).cell? ⟨w5.heap.size, 2, none⟩ = some (.slice Ax0_2 nx0_2 cx0_2) := (S1.at_ 0 rfl).cell 2
      have g3 : (w8).cell? ⟨w5.heap.size, 3, none⟩ = some (.slice Ax0_3 nx0_3 cx0_3) := (S1.at_ 0 rfl).cell 3
      have g4 : (w8).cell? ⟨w.heap.size, 0, none⟩ = some (.slice Aa0_0 na0_0 ca0_0) := (S1.at_ 3 rfl).cell 0
      have g5 : (w8).cell? ⟨w.heap.size, 1, none⟩ = some (.slice Aa0_1 na0_1 ca0_1) := (S1.at_ 3 rfl).cell 1
      have g6 : (w8).cell? ⟨w.heap.size, 2, none⟩ = some (.slice Aa0_2 na0_2 ca0_2) := (S1.at_ 3 rfl).cell 2
      have g7 : (w8).cell? ⟨w.heap.size, 3, none⟩ = some (.slice Aa0_3 na0_3 ca0_3) := (S1.at_ 3 rfl).cell 3
      have O1 := jd o
      have B1 := jd b
      clear S1 o b)
   | (go_at_call 12
      refine (eqTwo_yes _ _ _ _ _ _ _ _ _ _ d0 _ ((((SH.out.keep ((Below.refl _ _).drew)).keep B1.out).own_ 1 rfl).rd) (O1.out.rd) (Nat.le_refl _) (Nat.le_refl _) (by omega)).mono ?_
      rintro e w9 ⟨rfl, b⟩
      have S3 := ((SH.out.keep ((Below.refl _ _).drew)).keep B1.out).keep b
      have r0 : (w9).cell? ⟨w5.heap.size, 0, none⟩ = some (.slice Ax0_0 nx0_0 cx0_0) := (S3.at_ 0 rfl).cell 0
      have r1 : (w9).cell? ⟨w5.heap.size, 1, none⟩ = some (.slice Ax0_1 nx0_1 cx0_1) := (S3.at_ 0 rfl).cell 1
      have r2 : (w9).cell? ⟨w5.heap.size, 2, none⟩ = some (.slice Ax0_2 nx0_2 cx0_2) := (S3.at_ 0 rfl).cell 2
      have r3 : (w9).cell? ⟨w5.heap.size, 3, none⟩ = some (.slice Ax0_3 nx0_3 cx0_3) := (S3.at_ 0 rfl).cell 3
      have r4 : (w9).cell? ⟨w.heap.size, 0, none⟩ = some (.slice Aa0_0 na0_0 ca0_0) := (S3.at_ 3 rfl).cell 0
      have r5 : (w9).cell? ⟨w.heap.size, 1, none⟩ = some (.slice Aa0_1 na0_1 ca0_1) := (S3.at_ 3 rfl).cell 1
      have r6 : (w9).cell? ⟨w.heap.size, 2, none⟩ = some (.slice Aa0_2 na0_2 ca0_2) := (S3.at_ 3 rfl).cell 2
      have r7 : (w9).cell? ⟨w.heap.size, 3, none⟩ = some (.slice Aa0_3 na0_3 ca0_3) := (S3.at_ 3 rfl).cell 3
      have S2 := jd S3
      have C2 := jd ((CH.out.drew.trans (B1.out.mono CH.out.size)).trans (b.mono (CH.out.drew.trans (B1.out.mono CH.out.size)).size))
      clear b S3))
 have S := S2.out
 have c := C2.out
 clear SH CH S2 C2 O1 B1 f0 g0 r0 f1 g1 r1 f2 g2 r2 f3 g3 r3 f4 g4 r4 f5 g5 r5 f6 g6 r6 f7 g7 r7
 go_wp2
 go_ret
 exact ⟨rfl, c⟩
end Go.Proofs.Ytecihkkagpbkdaa

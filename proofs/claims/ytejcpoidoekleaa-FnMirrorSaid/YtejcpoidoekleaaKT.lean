/-
  Pairs of disks as plain data, and the laws' helpers for them: counted, copied, compared, marked and looked at.
  Pairs of disks as plain mathematics: what chapter 4 says of them.
  Every second number of a list in new memory: of the model (at most sixty) and of the program.
  The functions of chapter 1, of the model and of the program, in the form that later walks use: what reads as plain data comes in, what is owned comes out.
-/
import Derived.Test.YtejcpoidoekleaaKD
import Derived.Test.YtejcpoidoekleaaKA
import Derived.Test.YtejcpoidoekleaaKB
namespace Go.Proofs.Ytejcpoidoekleaa
set_option maxRecDepth 100000
open Go.RowKit

section
variable {w w' : World} {B base : Nat} {is : List Item} {ds ds' : List Dat} {vs vs' : List Value} {fp : List Nat}
theorem Rd.cut (h : Rd w B (ds ++ ds') (vs ++ vs')) (hl : ds.length = vs.length) : Rd w B ds vs ∧ Rd w B ds' vs' := by
  obtain ⟨x, y, e, h1, h2⟩ := h.split
  obtain ⟨rfl, rfl⟩ := List.append_inj e (by rw [← hl, h1.len])
  exact ⟨h1, h2⟩
theorem Ow.cut (h : Ow w (ds ++ ds') (vs ++ vs') fp) (hl : ds.length = vs.length) : ∃ f1 f2, fp = f1 ++ f2 ∧ Ow w ds vs f1 ∧ Ow w ds' vs' f2 := by
  obtain ⟨x, y, f1, f2, e, rfl, h1, h2⟩ := h.split
  obtain ⟨rfl, rfl⟩ := List.append_inj e (by rw [← hl, h1.len])
  exact ⟨f1, f2, rfl, h1, h2⟩
/-- A new variable in a box, its address told. -/
theorem Sep.boxAt (h : Sep w base is) (hle : base ≤ w.heap.size) (p : Nat) (hp : w.heap.size = p) (cs : Array Value) (t : TypeId) : Sep (w.alloc (.cells cs t)) base (.blk p cs t :: is) := by
  subst hp
  exact h.box hle cs t
/-- The first piece in two. -/
theorem Sep.cut (h : Sep w base (.own (ds ++ ds') (vs ++ vs') fp :: is)) (hl : ds.length = vs.length) : ∃ f1 f2, Sep w base (.own ds' vs' f2 :: .own ds vs f1 :: is) := by
  obtain ⟨x, y, f1, f2, e, h1⟩ := h.split
  have l1 := (h1.own_ 1 rfl).len
  obtain ⟨rfl, rfl⟩ := List.append_inj e (by rw [← hl, l1])
  exact ⟨f1, f2, h1⟩
end

structure TwoM where
  a : DiskM
  b : DiskM
def TwoM.cells (t : TwoM) : List Dat := t.a.cells ++ t.b.cells
def TwoM.sz (t : TwoM) : Nat := t.a.sz + t.b.sz
def TwoM.n (t : TwoM) : Nat := t.a.n + t.b.n
def MarkedT (t : TwoM) (k : Int) : Prop := MarkedD t.a k ∧ MarkedD t.b (k + (t.a.n : Int))
/-- A pair in new memory is handed back; what was there is as it was. -/
def MadeT (w : World) (t : TwoM) (e : Ending) (w' : World) : Prop :=
  ∃ A0 n0 c0 A1 n1 c1 A2 n2 c2 A3 n3 c3, e = .returned (.agg #[.slice A0 n0 c0, .slice A1 n1 c1, .slice A2 n2 c2, .slice A3 n3 c3]) ∧ Has w' w.heap.size t.cells [.slice A0 n0 c0, .slice A1 n1 c1, .slice A2 n2 c2, .slice A3 n3 c3] ∧ Below w.heap.size w w'

section
variable {w : World} {B : Nat} {t : TwoM} {v0 v1 v2 v3 : Value}
theorem Rd.halves (h : Rd w B t.cells [v0, v1, v2, v3]) : Rd w B t.a.cells [v0, v1] ∧ Rd w B t.b.cells [v2, v3] := Rd.cut (vs := [v0, v1]) (vs' := [v2, v3]) h rfl
theorem Rd.pairT (h : Rd w B t.a.cells [v0, v1]) (h' : Rd w B t.b.cells [v2, v3]) : Rd w B t.cells [v0, v1, v2, v3] := h.append h'
theorem Rd.slices (h : Rd w B t.cells [v0, v1, v2, v3]) : ∃ A0 n0 c0 A1 n1 c1 A2 n2 c2 A3 n3 c3, v0 = .slice A0 n0 c0 ∧ v1 = .slice A1 n1 c1 ∧ v2 = .slice A2 n2 c2 ∧ v3 = .slice A3 n3 c3 := by
  obtain ⟨h1, h2⟩ := h.halves
  obtain ⟨A0, n0, c0, A1, n1, c1, rfl, rfl, _⟩ := h1.disk
  obtain ⟨A2, n2, c2, A3, n3, c3, rfl, rfl, _⟩ := h2.disk
  exact ⟨A0, n0, c0, A1, n1, c1, A2, n2, c2, A3, n3, c3, rfl, rfl, rfl, rfl⟩
end

theorem two_n_le (t : TwoM) (h : t.sz ≤ 1048577) : t.n ≤ 2097154 := by
  have h1 := nums_le_rows t.a.kept
  have h2 := nums_le_wait t.a.wait
  have h3 := nums_le_rows t.b.kept
  have h4 := nums_le_wait t.b.wait
  unfold TwoM.sz DiskM.sz at h
  unfold TwoM.n DiskM.n
  omega

set_option maxHeartbeats 3200000 in
theorem toTwo_made (v0 v1 v2 v3 : Value) (t : TwoM) (w : World) (h : Rd w w.heap.size t.cells [v0, v1, v2, v3]) (hs : t.sz ≤ 1048576) : Calls Try.prog 31 #[.agg #[v0, v1, v2, v3]] w (MadeT w t) := by
  obtain ⟨Aa0, na0, ca0, Aa1, na1, ca1, Aa2, na2, ca2, Aa3, na3, ca3, rfl, rfl, rfl, rfl⟩ := h.slices
  obtain ⟨ha, hb⟩ := h.halves
  have S := Sep.nil w w.heap.size
  have c := Below.refl w.heap.size w
  replace S := S.boxAt c.size (w.heap.size) rfl #[.slice Aa0 na0 ca0, .slice Aa1 na1 ca1, .slice Aa2 na2 ca2, .slice Aa3 na3 ca3] 55
  replace c := c.alloc c.size (.cells #[.slice Aa0 na0 ca0, .slice Aa1 na1 ca1, .slice Aa2 na2 ca2, .slice Aa3 na3 ca3] 55)
  replace S := S.boxAt c.size (w.heap.size + 1) (by simp) #[.slice none 0 0, .slice none 0 0, .slice none 0 0, .slice none 0 0] 32
  replace c := c.alloc c.size (.cells #[.slice none 0 0, .slice none 0 0, .slice none 0 0, .slice none 0 0] 32)
  replace S := S.boxAt c.size (w.heap.size + 1 + 1) (by simp) #[.slice none 0 0, .slice none 0 0, .slice none 0 0, .slice none 0 0] 32
  replace c := c.alloc c.size (.cells #[.slice none 0 0, .slice none 0 0, .slice none 0 0, .slice none 0 0] 32)
  go_enter Try.func31, Try.ntmps31
  go_wp2_with fail
  generalize ((w.alloc (.cells #[.slice Aa0 na0 ca0, .slice Aa1 na1 ca1, .slice Aa2 na2 ca2, .slice Aa3 na3 ca3] 55)).alloc (.cells #[.slice none 0 0, .slice none 0 0, .slice none 0 0, .slice none 0 0] 32)).alloc (.cells #[.slice none 0 0, .slice none 0 0, .slice none 0 0, .slice none 0 0] 32) = w1 at *
  refine (toDisk_made _ _ t.a _ ((ha.keep c).up c.size) (by unfold TwoM.sz at hs; omega)).mono ?_
  rintro e w2 ⟨Au0, nu0, cu0, Au1, nu1, cu1, rfl, o, b⟩
  obtain ⟨fp_u, S'⟩ := S.has b o c.size
  replace c := c.trans (b.mono c.size)
  clear S; have S := S'; clear S' o b
  have f0 : w2.cell? ⟨w.heap.size + 1 + 1, 0, none⟩ = some (.slice none 0 0) := (S.at_ 1 rfl).cell 0
  have f1 := (S.at_ 1 rfl).free 0
  have f2 : w2.cell? ⟨w.heap.size + 1 + 1, 1, none⟩ = some (.slice none 0 0) := (S.at_ 1 rfl).cell 1
  have f3 := (S.at_ 1 rfl).free 1
  replace S := S.put 1 rfl 0 (.slice Au0 nu0 cu0)
  replace c := c.setCell (p := ⟨w.heap.size + 1 + 1, 0, none⟩) (by show w.heap.size ≤ w.heap.size + 1 + 1; omega) (.slice Au0 nu0 cu0)
  replace S := S.put 1 rfl 1 (.slice Au1 nu1 cu1)
  replace c := c.setCell (p := ⟨w.heap.size + 1 + 1, 1, none⟩) (by show w.heap.size ≤ w.heap.size + 1 + 1; omega) (.slice Au1 nu1 cu1)
  have f4 : ((w2.setCell ⟨w.heap.size + 1 + 1, 0, none⟩ (.slice Au0 nu0 cu0)).setCell ⟨w.heap.size + 1 + 1, 1, none⟩ (.slice Au1 nu1 cu1)).cell? ⟨w.heap.size, 2, none⟩ = some (.slice Aa2 na2 ca2) := (S.at_ 3 rfl).cell 2
  have f5 : ((w2.setCell ⟨w.heap.size + 1 + 1, 0, none⟩ (.slice Au0 nu0 cu0)).setCell ⟨w.heap.size + 1 + 1, 1, none⟩ (.slice Au1 nu1 cu1)).cell? ⟨w.heap.size, 3, none⟩ = some (.slice Aa3 na3 ca3) := (S.at_ 3 rfl).cell 3
  go_wp2_with fail
  generalize (w2.setCell ⟨w.heap.size + 1 + 1, 0, none⟩ (.slice Au0 nu0 cu0)).setCell ⟨w.heap.size + 1 + 1, 1, none⟩ (.slice Au1 nu1 cu1) = w3 at *
  refine (toDisk_made _ _ t.b _ ((hb.keep c).up c.size) (by unfold TwoM.sz at hs; omega)).mono ?_
  rintro e w4 ⟨Ax0, nx0, cx0, Ax1, nx1, cx1, rfl, o, b⟩
  obtain ⟨fp_x, S'⟩ := S.has b o c.size
  replace c := c.trans (b.mono c.size)
  clear S; have S := S'; clear S' o b f0 f1 f2 f3 f4 f5
  have f6 : w4.cell? ⟨w.heap.size + 1 + 1, 2, none⟩ = some (.slice none 0 0) := (S.at_ 2 rfl).cell 2
  have f7 := (S.at_ 2 rfl).free 2
  have f8 : w4.cell? ⟨w.heap.size + 1 + 1, 3, none⟩ = some (.slice none 0 0) := (S.at_ 2 rfl).cell 3
  have f9 := (S.at_ 2 rfl).free 3
  have f10 : w4.cell? ⟨w.heap.size + 1 + 1, 0, none⟩ = some (.slice Au0 nu0 cu0) := (S.at_ 2 rfl).cell 0
  have f11 : w4.cell? ⟨w.heap.size + 1 + 1, 1, none⟩ = some (.slice Au1 nu1 cu1) := (S.at_ 2 rfl).cell 1
  have f12 : w4.cell? ⟨w.heap.size + 1, 0, none⟩ = some (.slice none 0 0) := (S.at_ 3 rfl).cell 0
  have f13 := (S.at_ 3 rfl).free 0
  have f14 : w4.cell? ⟨w.heap.size + 1, 1, none⟩ = some (.slice none 0 0) := (S.at_ 3 rfl).cell 1
  have f15 := (S.at_ 3 rfl).free 1
  have f16 : w4.cell? ⟨w.heap.size + 1, 2, none⟩ = some (.slice none 0 0) := (S.at_ 3 rfl).cell 2
  have f17 := (S.at_ 3 rfl).free 2
  have f18 : w4.cell? ⟨w.heap.size + 1, 3, none⟩ = some (.slice none 0 0) := (S.at_ 3 rfl).cell 3
  have f19 := (S.at_ 3 rfl).free 3
  replace S := S.put 2 rfl 2 (.slice Ax0 nx0 cx0)
  replace c := c.setCell (p := ⟨w.heap.size + 1 + 1, 2, none⟩) (by show w.heap.size ≤ w.heap.size + 1 + 1; omega) (.slice Ax0 nx0 cx0)
  replace S := S.put 2 rfl 3 (.slice Ax1 nx1 cx1)
  replace c := c.setCell (p := ⟨w.heap.size + 1 + 1, 3, none⟩) (by show w.heap.size ≤ w.heap.size + 1 + 1; omega) (.slice Ax1 nx1 cx1)
  replace S := S.put 3 rfl 0 (.slice Au0 nu0 cu0)
  replace c := c.setCell (p := ⟨w.heap.size + 1, 0, none⟩) (by show w.heap.size ≤ w.heap.size + 1; omega) (.slice Au0 nu0 cu0)
  replace S := S.put 3 rfl 1 (.slice Au1 nu1 cu1)
  replace c := c.setCell (p := ⟨w.heap.size + 1, 1, none⟩) (by show w.heap.size ≤ w.heap.size + 1; omega) (.slice Au1 nu1 cu1)
  replace S := S.put 3 rfl 2 (.slice Ax0 nx0 cx0)
  replace c := c.setCell (p := ⟨w.heap.size + 1, 2, none⟩) (by show w.heap.size ≤ w.heap.size + 1; omega) (.slice Ax0 nx0 cx0)
  replace S := S.put 3 rfl 3 (.slice Ax1 nx1 cx1)
  replace c := c.setCell (p := ⟨w.heap.size + 1, 3, none⟩) (by show w.heap.size ≤ w.heap.size + 1; omega) (.slice Ax1 nx1 cx1)
  have H := Lib.hid S.pair
  have C := Lib.hid c
  clear S c ha hb h
  go_wp2
  exact bodyPost_ret (v := .agg #[.slice Au0 nu0 cu0, .slice Au1 nu1 cu1, .slice Ax0 nx0 cx0, .slice Ax1 nx1 cx1]) (by simp [results, Try.results31, go_sem, f12, f14, f16, f18]) rfl ⟨_, _, _, _, _, _, _, _, _, _, _, _, rfl, H.out, C.out⟩

set_option maxHeartbeats 3200000 in
theorem eqTwo_yes (v0 v1 v2 v3 u0 u1 u2 u3 : Value) (B B' : Nat) (t : TwoM) (w : World) (h : Rd w B t.cells [v0, v1, v2, v3]) (h' : Rd w B' t.cells [u0, u1, u2, u3]) (hB : B ≤ w.heap.size) (hB' : B' ≤ w.heap.size) (hs : t.sz ≤ 1048577) :
    Calls Try.prog 32 #[.agg #[v0, v1, v2, v3], .agg #[u0, u1, u2, u3]] w fun e w' => e = .returned (.bool true) ∧ Below w.heap.size w w' := by
  obtain ⟨Aa0, na0, ca0, Aa1, na1, ca1, Aa2, na2, ca2, Aa3, na3, ca3, rfl, rfl, rfl, rfl⟩ := h.slices
  obtain ⟨Ab0, nb0, cb0, Ab1, nb1, cb1, Ab2, nb2, cb2, Ab3, nb3, cb3, rfl, rfl, rfl, rfl⟩ := h'.slices
  obtain ⟨ha, hb⟩ := h.halves
  obtain ⟨ka, kb⟩ := h'.halves
  have S := Sep.nil w w.heap.size
  have c := Below.refl w.heap.size w
  replace S := S.boxAt c.size (w.heap.size) rfl #[.slice Aa0 na0 ca0, .slice Aa1 na1 ca1, .slice Aa2 na2 ca2, .slice Aa3 na3 ca3] 32
  replace c := c.alloc c.size (.cells #[.slice Aa0 na0 ca0, .slice Aa1 na1 ca1, .slice Aa2 na2 ca2, .slice Aa3 na3 ca3] 32)
  replace S := S.boxAt c.size (w.heap.size + 1) (by simp) #[.slice Ab0 nb0 cb0, .slice Ab1 nb1 cb1, .slice Ab2 nb2 cb2, .slice Ab3 nb3 cb3] 32
  replace c := c.alloc c.size (.cells #[.slice Ab0 nb0 cb0, .slice Ab1 nb1 cb1, .slice Ab2 nb2 cb2, .slice Ab3 nb3 cb3] 32)
  go_enter Try.func32, Try.ntmps32
  go_wp2_with fail
  generalize (w.alloc (.cells #[.slice Aa0 na0 ca0, .slice Aa1 na1 ca1, .slice Aa2 na2 ca2, .slice Aa3 na3 ca3] 32)).alloc (.cells #[.slice Ab0 nb0 cb0, .slice Ab1 nb1 cb1, .slice Ab2 nb2 cb2, .slice Ab3 nb3 cb3] 32) = w1 at *
  refine (eqDisk_yes _ _ _ _ _ _ t.a _ (ha.keep (c.mono hB)) (ka.keep (c.mono hB')) (Nat.le_trans hB c.size) (Nat.le_trans hB' c.size) (by unfold TwoM.sz at hs; omega)).mono ?_
  rintro e w2 ⟨rfl, b⟩
  replace c := c.trans (b.mono c.size)
  replace S := S.keep b
  clear b
  have f0 : w2.cell? ⟨w.heap.size, 2, none⟩ = some (.slice Aa2 na2 ca2) := (S.at_ 1 rfl).cell 2
  have f1 : w2.cell? ⟨w.heap.size, 3, none⟩ = some (.slice Aa3 na3 ca3) := (S.at_ 1 rfl).cell 3
  have f2 : w2.cell? ⟨w.heap.size + 1, 2, none⟩ = some (.slice Ab2 nb2 cb2) := (S.at_ 0 rfl).cell 2
  have f3 : w2.cell? ⟨w.heap.size + 1, 3, none⟩ = some (.slice Ab3 nb3 cb3) := (S.at_ 0 rfl).cell 3
  go_wp2_with fail
  refine (eqDisk_yes _ _ _ _ _ _ t.b _ (hb.keep (c.mono hB)) (kb.keep (c.mono hB')) (Nat.le_trans hB c.size) (Nat.le_trans hB' c.size) (by unfold TwoM.sz at hs; omega)).mono ?_
  rintro e w3 ⟨rfl, b⟩
  replace c := c.trans (b.mono c.size)
  replace S := S.keep b
  clear b f0 f1 f2 f3
  have C := Lib.hid c
  clear S c ha hb ka kb h h'
  go_wp2
  go_ret
  exact ⟨rfl, C.out⟩

set_option maxHeartbeats 3200000 in
theorem markTwo_any (v0 v1 v2 v3 : Value) (t : TwoM) (fp : List Nat) (w : World) (o : Ow w t.cells [v0, v1, v2, v3] fp) (hnd : fp.Nodup) (hs : t.sz ≤ 1048577) (k : Int) (k0 : 0 ≤ k) (k1 : k ≤ 90000000000) :
    Calls Try.prog 34 #[.agg #[v0, v1, v2, v3], .int .i64 k] w fun e w' => ∃ t', e = .returned (.int .i64 (k + (t.n : Int))) ∧ Ow w' t'.cells [v0, v1, v2, v3] fp ∧ Touch fp w w' ∧ MarkedT t' k ∧ t'.n = t.n ∧ t'.sz = t.sz := by
  obtain ⟨Aa0, na0, ca0, Aa1, na1, ca1, Aa2, na2, ca2, Aa3, na3, ca3, rfl, rfl, rfl, rfl⟩ := o.rd.slices
  have S := Sep.nil w w.heap.size
  have c := Below.refl w.heap.size w
  obtain ⟨f1, f2, rfl, o1, o2⟩ := Ow.cut (vs := [.slice Aa0 na0 ca0, .slice Aa1 na1 ca1]) (vs' := [.slice Aa2 na2 ca2, .slice Aa3 na3 ca3]) o rfl
  have hlt := o.lt
  rw [List.nodup_append] at hnd
  obtain ⟨hn1, hn2, hdis⟩ := hnd
  have hk := two_n_le t hs
  have hna : t.n = t.a.n + t.b.n := rfl
  have hsa : t.a.sz ≤ 1048577 := by unfold TwoM.sz at hs; omega
  have hsb : t.b.sz ≤ 1048577 := by unfold TwoM.sz at hs; omega
  clear o
  replace S := S.boxAt c.size (w.heap.size) rfl #[.slice Aa0 na0 ca0, .slice Aa1 na1 ca1, .slice Aa2 na2 ca2, .slice Aa3 na3 ca3] 32
  replace c := c.alloc c.size (.cells #[.slice Aa0 na0 ca0, .slice Aa1 na1 ca1, .slice Aa2 na2 ca2, .slice Aa3 na3 ca3] 32)
  replace o1 := o1.keep ((Below.refl _ _).alloc (Nat.le_refl _) (.cells #[.slice Aa0 na0 ca0, .slice Aa1 na1 ca1, .slice Aa2 na2 ca2, .slice Aa3 na3 ca3] 32))
  replace o2 := o2.keep ((Below.refl _ _).alloc (Nat.le_refl _) (.cells #[.slice Aa0 na0 ca0, .slice Aa1 na1 ca1, .slice Aa2 na2 ca2, .slice Aa3 na3 ca3] 32))
  have p0 := S.at_ 0 rfl
  clear S
  go_enter Try.func34, Try.ntmps34
  go_wp2_with fail
  generalize w.alloc (.cells #[.slice Aa0 na0 ca0, .slice Aa1 na1 ca1, .slice Aa2 na2 ca2, .slice Aa3 na3 ca3] 32) = w1 at *
  refine (markDisk_any _ _ t.a f1 _ o1 hn1 hsa k k0 (by omega)).mono ?_
  rintro e w2 ⟨d1, rfl, q1, t1, m1, en1, es1⟩
  have q2 := o2.touch t1 (fun p hp hm => hdis p hm p hp rfl)
  have p1 := p0.touch t1 (fun hm => by have := hlt _ (List.mem_append_left _ hm); omega)
  have c2 : w2.cell? ⟨w.heap.size, 2, none⟩ = some (.slice Aa2 na2 ca2) := p1.cell 2
  have c3 : w2.cell? ⟨w.heap.size, 3, none⟩ = some (.slice Aa3 na3 ca3) := p1.cell 3
  clear p0 p1 o1 o2
  go_wp2_with fail
  refine (markDisk_any _ _ t.b f2 _ q2 hn2 hsb _ (by omega) (by omega)).mono ?_
  rintro e w3 ⟨d2, rfl, r2, t2, m2, en2, es2⟩
  have r1 := q1.touch t2 (fun p hp hm => hdis p hp p hm rfl)
  have T := Lib.hid (((Touch.of_below c (f1 ++ f2)).trans (t1.mono fun p hp => List.mem_append_left _ hp)).trans (t2.mono fun p hp => List.mem_append_right _ hp))
  have R := Lib.hid (Ow.append r1 r2)
  have M1 := Lib.hid m1
  have M2 := Lib.hid m2
  have E := Lib.hid (And.intro (And.intro en1 es1) (And.intro en2 es2))
  clear q1 q2 r1 r2 t1 t2 m1 m2 c2 c3 en1 en2 es1 es2 c
  go_wp2
  go_ret
  obtain ⟨⟨en1, es1⟩, en2, es2⟩ := E.out
  refine ⟨⟨d1, d2⟩, ?_, R.out, T.out, ⟨M1.out, ?_⟩, ?_, ?_⟩
  · refine congrArg Ending.returned (congrArg (Value.int .i64) ?_)
    omega
  · show MarkedD d2 (k + (d1.n : Int))
    rw [en1]
    exact M2.out
  · show d1.n + d2.n = t.a.n + t.b.n
    omega
  · show d1.sz + d2.sz = t.a.sz + t.b.sz
    omega

set_option maxHeartbeats 3200000 in
theorem heldTwo_any (v0 v1 v2 v3 : Value) (t : TwoM) (B : Nat) (w : World) (h : Rd w B t.cells [v0, v1, v2, v3]) (hB : B ≤ w.heap.size) (hs : t.sz ≤ 1048577) (k : Int) (k0 : 0 ≤ k) (k1 : k ≤ 90000000000) (hm : MarkedT t k) :
    Calls Try.prog 35 #[.agg #[v0, v1, v2, v3], .int .i64 k] w fun e w' => e = .returned (.int .i64 (k + (t.n : Int))) ∧ Below w.heap.size w w' := by
  obtain ⟨Aa0, na0, ca0, Aa1, na1, ca1, Aa2, na2, ca2, Aa3, na3, ca3, rfl, rfl, rfl, rfl⟩ := h.slices
  obtain ⟨ha, hb⟩ := h.halves
  have S := Sep.nil w w.heap.size
  have c := Below.refl w.heap.size w
  have hk := two_n_le t hs
  have hna : t.n = t.a.n + t.b.n := rfl
  have hsa : t.a.sz ≤ 1048577 := by unfold TwoM.sz at hs; omega
  have hsb : t.b.sz ≤ 1048577 := by unfold TwoM.sz at hs; omega
  obtain ⟨m1, m2⟩ := hm
  replace S := S.boxAt c.size (w.heap.size) rfl #[.slice Aa0 na0 ca0, .slice Aa1 na1 ca1, .slice Aa2 na2 ca2, .slice Aa3 na3 ca3] 32
  replace c := c.alloc c.size (.cells #[.slice Aa0 na0 ca0, .slice Aa1 na1 ca1, .slice Aa2 na2 ca2, .slice Aa3 na3 ca3] 32)
  go_enter Try.func35, Try.ntmps35
  go_wp2_with fail
  generalize w.alloc (.cells #[.slice Aa0 na0 ca0, .slice Aa1 na1 ca1, .slice Aa2 na2 ca2, .slice Aa3 na3 ca3] 32) = w1 at *
  refine (heldDisk_any _ _ t.a _ _ (ha.keep (c.mono hB)) (Nat.le_trans hB c.size) hsa k k0 (by omega) m1).mono ?_
  rintro e w2 ⟨rfl, b⟩
  replace c := c.trans (b.mono c.size)
  replace S := S.keep b
  clear b
  have q0 : ¬ (k + (t.a.n : Int) < 0) := by omega
  have f0 : w2.cell? ⟨w.heap.size, 2, none⟩ = some (.slice Aa2 na2 ca2) := (S.at_ 0 rfl).cell 2
  have f1 : w2.cell? ⟨w.heap.size, 3, none⟩ = some (.slice Aa3 na3 ca3) := (S.at_ 0 rfl).cell 3
  go_wp2_with fail
  refine (heldDisk_any _ _ t.b _ _ (hb.keep (c.mono hB)) (Nat.le_trans hB c.size) hsb _ (by omega) (by omega) m2).mono ?_
  rintro e w3 ⟨rfl, b⟩
  replace c := c.trans (b.mono c.size)
  replace S := S.keep b
  clear b f0 f1
  have q1 : ¬ (k + (t.a.n : Int) + (t.b.n : Int) < 0) := by omega
  have C := Lib.hid c
  have HN := Lib.hid hna
  clear S c ha hb h m1 m2 hna
  go_wp2
  go_ret
  refine ⟨congrArg Ending.returned (congrArg (Value.int .i64) ?_), C.out⟩
  rw [HN.out]
  omega

set_option maxHeartbeats 3200000 in
theorem szTwo_any (v0 v1 v2 v3 : Value) (t : TwoM) (B : Nat) (L : Int) (w : World) (h : Rd w B t.cells [v0, v1, v2, v3]) (hB : B ≤ w.heap.size) (l0 : 0 ≤ L) (l1 : L ≤ 1048576) :
    Calls Try.prog 30 #[.agg #[v0, v1, v2, v3], .int .i64 L] w fun e w' => e = .returned (.int .i64 (left L t.sz)) ∧ Below w.heap.size w w' := by
  obtain ⟨Aa0, na0, ca0, Aa1, na1, ca1, Aa2, na2, ca2, Aa3, na3, ca3, rfl, rfl, rfl, rfl⟩ := h.slices
  obtain ⟨ha, hb⟩ := h.halves
  have HD := Lib.hid (show t.sz = t.a.sz + t.b.sz from rfl)
  by_cases h1 : (t.a.sz : Int) ≤ L
  case neg =>
    have S := Sep.nil w w.heap.size
    have c := Below.refl w.heap.size w
    replace S := S.boxAt c.size (w.heap.size) rfl #[.slice Aa0 na0 ca0, .slice Aa1 na1 ca1, .slice Aa2 na2 ca2, .slice Aa3 na3 ca3] 55
    replace c := c.alloc c.size (.cells #[.slice Aa0 na0 ca0, .slice Aa1 na1 ca1, .slice Aa2 na2 ca2, .slice Aa3 na3 ca3] 55)
    go_enter Try.func30, Try.ntmps30
    go_wp2_with fail
    generalize w.alloc (.cells #[.slice Aa0 na0 ca0, .slice Aa1 na1 ca1, .slice Aa2 na2 ca2, .slice Aa3 na3 ca3] 55) = w1 at *
    refine (szDisk_any _ _ t.a _ _ _ (ha.keep (c.mono hB)) (Nat.le_trans hB c.size) l0 l1).mono ?_
    rintro e w2 ⟨rfl, b⟩
    replace c := c.trans (b.mono c.size)
    replace S := S.keep b
    clear b
    rw [left, if_neg (by omega)]
    have C := Lib.hid c
    clear S c ha hb h
    go_wp2
    go_ret
    refine ⟨ret_i64 ?_, C.out⟩
    rw [left, HD.out, if_neg (by omega)]
  by_cases h2 : (t.b.sz : Int) ≤ L - (t.a.sz : Int)
  case neg =>
    have S := Sep.nil w w.heap.size
    have c := Below.refl w.heap.size w
    replace S := S.boxAt c.size (w.heap.size) rfl #[.slice Aa0 na0 ca0, .slice Aa1 na1 ca1, .slice Aa2 na2 ca2, .slice Aa3 na3 ca3] 55
    replace c := c.alloc c.size (.cells #[.slice Aa0 na0 ca0, .slice Aa1 na1 ca1, .slice Aa2 na2 ca2, .slice Aa3 na3 ca3] 55)
    go_enter Try.func30, Try.ntmps30
    go_wp2_with fail
    generalize w.alloc (.cells #[.slice Aa0 na0 ca0, .slice Aa1 na1 ca1, .slice Aa2 na2 ca2, .slice Aa3 na3 ca3] 55) = w1 at *
    refine (szDisk_any _ _ t.a _ _ _ (ha.keep (c.mono hB)) (Nat.le_trans hB c.size) l0 l1).mono ?_
    rintro e w2 ⟨rfl, b⟩
    replace c := c.trans (b.mono c.size)
    replace S := S.keep b
    clear b
    rw [left, if_pos (by omega)]
    have q0 : ¬ (L - (t.a.sz : Int) < 0) := by omega
    have f0 : w2.cell? ⟨w.heap.size, 2, none⟩ = some (.slice Aa2 na2 ca2) := (S.at_ 0 rfl).cell 2
    have f1 : w2.cell? ⟨w.heap.size, 3, none⟩ = some (.slice Aa3 na3 ca3) := (S.at_ 0 rfl).cell 3
    go_wp2_with fail
    refine (szDisk_any _ _ t.b _ _ _ (hb.keep (c.mono hB)) (Nat.le_trans hB c.size) (by omega) (by omega)).mono ?_
    rintro e w3 ⟨rfl, b⟩
    replace c := c.trans (b.mono c.size)
    replace S := S.keep b
    clear b f0 f1
    rw [left, if_neg (by omega)]
    have C := Lib.hid c
    clear S c ha hb h
    go_wp2
    go_ret
    refine ⟨ret_i64 ?_, C.out⟩
    rw [left, HD.out, if_neg (by omega)]
  case pos =>
    have S := Sep.nil w w.heap.size
    have c := Below.refl w.heap.size w
    replace S := S.boxAt c.size (w.heap.size) rfl #[.slice Aa0 na0 ca0, .slice Aa1 na1 ca1, .slice Aa2 na2 ca2, .slice Aa3 na3 ca3] 55
    replace c := c.alloc c.size (.cells #[.slice Aa0 na0 ca0, .slice Aa1 na1 ca1, .slice Aa2 na2 ca2, .slice Aa3 na3 ca3] 55)
    go_enter Try.func30, Try.ntmps30
    go_wp2_with fail
    generalize w.alloc (.cells #[.slice Aa0 na0 ca0, .slice Aa1 na1 ca1, .slice Aa2 na2 ca2, .slice Aa3 na3 ca3] 55) = w1 at *
    refine (szDisk_any _ _ t.a _ _ _ (ha.keep (c.mono hB)) (Nat.le_trans hB c.size) l0 l1).mono ?_
    rintro e w2 ⟨rfl, b⟩
    replace c := c.trans (b.mono c.size)
    replace S := S.keep b
    clear b
    rw [left, if_pos (by omega)]
    have q0 : ¬ (L - (t.a.sz : Int) < 0) := by omega
    have f0 : w2.cell? ⟨w.heap.size, 2, none⟩ = some (.slice Aa2 na2 ca2) := (S.at_ 0 rfl).cell 2
    have f1 : w2.cell? ⟨w.heap.size, 3, none⟩ = some (.slice Aa3 na3 ca3) := (S.at_ 0 rfl).cell 3
    go_wp2_with fail
    refine (szDisk_any _ _ t.b _ _ _ (hb.keep (c.mono hB)) (Nat.le_trans hB c.size) (by omega) (by omega)).mono ?_
    rintro e w3 ⟨rfl, b⟩
    replace c := c.trans (b.mono c.size)
    replace S := S.keep b
    clear b f0 f1
    rw [left, if_pos (by omega)]
    have q1 : ¬ (L - (t.a.sz : Int) - (t.b.sz : Int) < 0) := by omega
    have C := Lib.hid c
    clear S c ha hb h
    go_wp2
    go_ret
    refine ⟨ret_i64 ?_, C.out⟩
    rw [left, HD.out, if_pos (by omega)]
    omega

end Go.Proofs.Ytejcpoidoekleaa

namespace Go.Proofs.Ytejcpoidoekleaa
set_option maxRecDepth 100000
open Go.RowKit

def zeroT : TwoM := ⟨zeroD, zeroD⟩
def twoOk (t : TwoM) : Bool := diskOk t.a && (diskOk t.b && decide (t.a.kept.length = t.b.kept.length))
def newTwo (n : Int) : TwoM := ⟨newDisk n, newDisk n⟩
def bothWrote (t : TwoM) (i : Int) (r : List Int) : TwoM × Bool :=
  if twoOk t = true then (if (withSum r).length ≠ 0 ∧ (wrote t.a i (withSum r)).2 = true ∧ (wrote t.b i (withSum r)).2 = true then (⟨(wrote t.a i (withSum r)).1, (wrote t.b i (withSum r)).1⟩, true) else (t, false)) else (zeroT, false)
def bothSynced (t : TwoM) : TwoM := if twoOk t = true then ⟨synced t.a, synced t.b⟩ else zeroT
/-- Every second number, the first of them at k. -/
def second (xs : List Int) (k : Nat) : List Int := (List.range ((xs.length + 1 - k) / 2)).map fun j => xs.getD (k + 2 * j) 0
def bothFallen (t : TwoM) (fs : List Int) : TwoM := if twoOk t = true then ⟨fallen t.a (second fs 0), fallen t.b (second fs 1)⟩ else zeroT
/-- The row of one disk, if it is right. -/
def rightOf (d : DiskM) (i : Int) : List Int × Bool := unsummed (readAt d i).1
def rightAt (t : TwoM) (i : Int) : List (List Int) :=
  if twoOk t = true ∧ hasS t.a i = true then
    (if (rightOf t.a i).2 = true then [(rightOf t.a i).1] else []) ++ (if (rightOf t.b i).2 = true ∧ ¬ ((rightOf t.a i).2 = true ∧ (rightOf t.a i).1 = (rightOf t.b i).1) then [(rightOf t.b i).1] else [])
  else []
def mendedAt (t : TwoM) (i : Int) (r : List Int) : TwoM := if (bothWrote t i r).2 = true then bothSynced (bothWrote t i r).1 else (bothWrote t i r).1
def equalIn (t : TwoM) : Bool := twoOk t && (safeIn t.a && (safeIn t.b && decide (t.a.kept = t.b.kept)))

theorem twoOk_iff {t : TwoM} : twoOk t = true ↔ diskOk t.a = true ∧ diskOk t.b = true ∧ t.a.kept.length = t.b.kept.length := by
  unfold twoOk
  simp only [Bool.and_eq_true, decide_eq_true_eq]
theorem ok_sz9 {d : DiskM} (h : diskOk d = true) : d.sz ≤ 4900 := by
  have h1 := rows_sz_le (ok_kept_len h) (diskOk_iff.1 h).1.2
  have h2 := wait_sz_le (fun p hp => (ok_wait h p hp).2) (diskOk_iff.1 h).2.1
  unfold DiskM.sz
  omega
theorem two_sz {t : TwoM} (ha : diskOk t.a = true) (hb : diskOk t.b = true) : t.sz ≤ 9800 := by
  have h1 := ok_sz9 ha
  have h2 := ok_sz9 hb
  unfold TwoM.sz
  omega
theorem twoOk_no {t : TwoM} (h : ¬ (diskOk t.a = true ∧ diskOk t.b = true ∧ t.a.kept.length = t.b.kept.length)) : twoOk t = false := by
  cases hd : twoOk t
  · rfl
  · exact absurd (twoOk_iff.1 hd) h

/-! ### Valid pairs stay valid -/
theorem wrote_len {d : DiskM} (h : diskOk d = true) (i : Int) (r : List Int) : (wrote d i r).1.kept.length = d.kept.length := by
  unfold wrote
  rw [if_pos h]
  split <;> rfl
theorem synced_lenT {d : DiskM} (h : diskOk d = true) : (synced d).kept.length = d.kept.length := by simp [synced, h, fall, fellTo_len]
theorem fallen_lenT {d : DiskM} (h : diskOk d = true) (fs : List Int) : (fallen d fs).kept.length = d.kept.length := by simp [fallen, h, fall, fellTo_len]
theorem bothWrote_ok {t : TwoM} (h : twoOk t = true) (i : Int) (r : List Int) : twoOk (bothWrote t i r).1 = true := by
  obtain ⟨h1, h2, h3⟩ := twoOk_iff.1 h
  unfold bothWrote
  rw [if_pos h]
  split
  · exact twoOk_iff.2 ⟨wrote_ok h1 _ _, wrote_ok h2 _ _, by rw [wrote_len h1, wrote_len h2, h3]⟩
  · exact h
theorem bothSynced_ok {t : TwoM} (h : twoOk t = true) : twoOk (bothSynced t) = true := by
  obtain ⟨h1, h2, h3⟩ := twoOk_iff.1 h
  unfold bothSynced
  rw [if_pos h]
  exact twoOk_iff.2 ⟨synced_ok h1, synced_ok h2, by rw [synced_lenT h1, synced_lenT h2, h3]⟩
theorem bothFallen_ok {t : TwoM} (h : twoOk t = true) (fs : List Int) : twoOk (bothFallen t fs) = true := by
  obtain ⟨h1, h2, h3⟩ := twoOk_iff.1 h
  unfold bothFallen
  rw [if_pos h]
  exact twoOk_iff.2 ⟨fallen_ok h1 _, fallen_ok h2 _, by rw [fallen_lenT h1, fallen_lenT h2, h3]⟩
theorem newTwo_ok {n : Int} (h : secOk n = true) : twoOk (newTwo n) = true := twoOk_iff.2 ⟨newDisk_ok h, newDisk_ok h, rfl⟩

/-! ### Sizes -/
theorem zeroT_sz : zeroT.sz ≤ 1048577 := by decide
theorem ok_two_sz {t : TwoM} (h : twoOk t = true) : t.sz ≤ 9800 := two_sz (twoOk_iff.1 h).1 (twoOk_iff.1 h).2.1
theorem newTwo_sz (n : Int) : (newTwo n).sz ≤ 1048577 := by
  cases h : secOk n
  · have e : newTwo n = zeroT := by simp [newTwo, newDisk, h, zeroT]
    rw [e]
    exact zeroT_sz
  · have := ok_two_sz (newTwo_ok h)
    omega
theorem bothWrote_sz (t : TwoM) (i : Int) (r : List Int) (_h : t.sz ≤ 1048576) (_h2 : r.length ≤ 1048576) : (bothWrote t i r).1.sz ≤ 1048577 := by
  cases h : twoOk t
  · unfold bothWrote
    rw [if_neg (by simp [h])]
    exact zeroT_sz
  · have := ok_two_sz (bothWrote_ok h i r)
    omega
theorem bothSynced_sz (t : TwoM) (_h : t.sz ≤ 1048576) : (bothSynced t).sz ≤ 1048577 := by
  cases h : twoOk t
  · unfold bothSynced
    rw [if_neg (by simp [h])]
    exact zeroT_sz
  · have := ok_two_sz (bothSynced_ok h)
    omega
theorem bothFallen_sz (t : TwoM) (fs : List Int) (_h : t.sz ≤ 1048576) (_h2 : fs.length ≤ 1048576) : (bothFallen t fs).sz ≤ 1048577 := by
  cases h : twoOk t
  · unfold bothFallen
    rw [if_neg (by simp [h])]
    exact zeroT_sz
  · have := ok_two_sz (bothFallen_ok h fs)
    omega
theorem mendedAt_sz (t : TwoM) (i : Int) (r : List Int) (h : t.sz ≤ 1048576) (h2 : r.length ≤ 1048576) : (mendedAt t i r).sz ≤ 1048577 := by
  unfold mendedAt
  split
  · cases hw : twoOk t
    · rename_i hb
      rw [bothWrote, if_neg (by simp [hw])] at hb
      simp at hb
    · have := ok_two_sz (bothSynced_ok (bothWrote_ok hw i r))
      omega
  · exact bothWrote_sz t i r h h2
theorem unsummed_len (xs : List Int) : (unsummed xs).1.length ≤ 48 := by
  unfold unsummed
  split
  · rename_i h
    have := rowOk_lenS h.1
    simp only [List.length_take]
    omega
  · simp
theorem rightAt_sz (t : TwoM) (i : Int) (_h : t.sz ≤ 1048576) : rowsSz (rightAt t i) ≤ 1048577 := by
  have h1 : (rightOf t.a i).1.length ≤ 48 := unsummed_len _
  have h2 : (rightOf t.b i).1.length ≤ 48 := unsummed_len _
  unfold rightAt rowsSz
  split
  · split <;> split <;> simp <;> omega
  · simp

/-! ### Every second number -/
theorem second_len (xs : List Int) (k : Nat) : (second xs k).length = (xs.length + 1 - k) / 2 := by simp [second]
theorem second_get (xs : List Int) (k j : Nat) (h : k + 2 * j < xs.length) : (second xs k).getD j 0 = xs.getD (k + 2 * j) 0 := by
  have : j < (xs.length + 1 - k) / 2 := by omega
  simp [second, List.getD_eq_getElem?_getD, List.getElem?_map, List.getElem?_range this]
theorem second_take (xs : List Int) (k j : Nat) (h : k + 2 * j < xs.length) : (second xs k).take (j + 1) = (second xs k).take j ++ [xs.getD (k + 2 * j) 0] := by
  have hj : j < (second xs k).length := by rw [second_len]; omega
  rw [List.take_succ_eq_append_getElem hj, ← second_get xs k j h, List.getD_eq_getElem?_getD, List.getElem?_eq_getElem hj]
  rfl
theorem second_all (xs : List Int) (k j : Nat) (h : xs.length ≤ k + 2 * j) : (second xs k).take j = second xs k := List.take_of_length_le (by rw [second_len]; omega)

/-- Of a valid disk no more than sixty fates matter. -/
theorem fellTo_take (fs : List Int) (k : List (List Int)) (l : List (Int × List Int)) (m : Nat) : ∀ j, j ≤ m → fellTo false (fs.take m) k l j = fellTo false fs k l j
  | 0, _ => rfl
  | j + 1, h => by
    have ih := fellTo_take fs k l m j (by omega)
    have e : (fs.take m).getD j 0 = fs.getD j 0 := by
      rw [List.getD_eq_getElem?_getD, List.getD_eq_getElem?_getD, List.getElem?_take, if_pos (by omega)]
    simp only [fellTo, ih, e]
theorem fallen_take {d : DiskM} (h : diskOk d = true) (fs : List Int) : fallen d (fs.take 60) = fallen d fs := by
  have := (diskOk_iff.1 h).2.1
  simp only [fallen, h, if_true, fall, fellTo_take fs _ _ 60 _ this]

end Go.Proofs.Ytejcpoidoekleaa

namespace Go.Proofs.Ytejcpoidoekleaa
set_option maxRecDepth 100000
open Go.RowKit

set_option maxHeartbeats 3200000 in
theorem sFates_any (E : Option Addr) (o co : Nat) (fs : List Int) (k : Nat) (w : World) (h : IRow w w.heap.size E o fs) (ho : o ≤ 1048577) (hk : k ≤ 1) :
    Calls Try.prog 83 #[.slice E o co, .int .i64 (k : Int)] w (MadeRow w ((second fs k).take 60)) := by
  have hl := Lib.hid h.1
  have O0 := Lib.hid (own_empty w)
  have B0 := Lib.hid ((Below.refl _ w).alloc (Nat.le_refl _) (.cells #[] 2))
  go_enter Try.func83, Try.ntmps83
  go_wp2
  go_loopw [5, 6] (fun r i wr => ∃ (j m c : Nat) (A : Option Addr), m = k + 2 * j ∧ m ≤ o + 1 ∧ j ≤ 60 ∧ i = .int .i64 (m : Int) ∧ r = .slice A j c ∧ Own wr w.heap.size A j c ((second fs k).take j) ∧ Below w.heap.size w wr) (fun _ i _ => (o + 2 - (intOf i).toNat))
  case atStart => exact ⟨0, k, 0, some ⟨w.heap.size, 0, none⟩, by omega, by omega, by omega, rfl, rfl, O0.out, B0.out⟩
  case round =>
    obtain ⟨j, m, c, A, hm, hmo, hj, rfl, rfl, hown, hbel⟩ := hrel
    have hjo : j ≤ 1048578 := by omega
    have HM := Lib.hid hm
    have z := hbel.size
    clear O0 B0 hm
    by_cases hlt : m < o
    case neg =>
      have i1 : ¬ ((m : Int) < (o : Int)) := by omega
      have HE := Lib.hid (show (second fs k).take j = (second fs k).take 60 by
        rw [second_all fs k j (by have := hl.out; have := HM.out; omega)]
        exact (List.take_of_length_le (by rw [second_len]; have := hl.out; have := HM.out; omega)).symm)
      clear h
      go_wp2
      go_ret
      refine ⟨A, j, c, rfl, ?_, hbel⟩
      rw [← HE.out]
      exact hown
    by_cases h60 : j < 60
    case neg =>
      have i1 : (m : Int) < (o : Int) := by omega
      have i2 : ¬ ((j : Int) < 60) := by omega
      have HE := Lib.hid (show j = 60 by omega)
      clear h
      go_wp2
      go_ret
      refine ⟨A, j, c, rfl, ?_, hbel⟩
      rw [← HE.out]
      exact hown
    have i1 : (m : Int) < (o : Int) := by omega
    have i2 : (j : Int) < 60 := by omega
    have i0 : (0 : Int) ≤ (m : Int) := by omega
    obtain ⟨b, off, rfl, hb, hc⟩ := h.2 (by omega)
    have ce := (hbel.cell (p := ⟨b, off + m, none⟩) hb).trans (hc m hlt)
    have HX := Lib.hid (show (second fs k).take (j + 1) = (second fs k).take j ++ [fs.getD m 0] by
      have := HM.out
      subst this
      exact second_take fs k j (by have := hl.out; omega))
    generalize fs.getD m 0 = y at *
    have o2 := hown.below ((Below.refl _ wr).alloc (Nat.le_refl _) (.cells #[.int .i64 y] 2))
    have r2 := (own_one wr y).irow
    have zb : w.heap.size ≤ (wr.alloc (.cells #[.int .i64 y] 2)).heap.size := by simp; omega
    have HB := Lib.hid (hbel.alloc hbel.size (.cells #[.int .i64 y] 2))
    clear hc h hown hbel
    go_wp2_with (first
      | (at_builtin
         refine wpList_append_ints rfl (.tmp 20) (.tmp 25) rfl rfl o2 rfl r2 zb (by omega) ?_
         intro A3 c3 w3 o3 g3 e3))
    have R := Lib.hid (HB.out.grown g3 HB.out.size (fun p hp => (o2.ge p hp).1))
    go_roundw
    case rel => exact ⟨j + 1, m + 2, c3, A3, by have := HM.out; omega, by omega, by omega, by go_num, rfl, by rw [HX.out]; exact o3, R.out⟩
    case measure => simp [intOf]; omega

set_option maxHeartbeats 3200000 in
theorem iFates_any (E : Option Addr) (o co : Nat) (fs : List Int) (k : Nat) (w : World) (h : IRow w w.heap.size E o fs) (ho : o ≤ 1048577) (hk : k ≤ 1) :
    Calls Try.prog 66 #[.slice E o co, .int .i64 (k : Int)] w (MadeRow w (second fs k)) := by
  have hl := Lib.hid h.1
  have O0 := Lib.hid (own_nil w w.heap.size)
  have B0 := Lib.hid (Below.refl w.heap.size w)
  go_enter Try.func66, Try.ntmps66
  go_wp2
  go_loopw [5, 6] (fun r i wr => ∃ (j m c : Nat) (A : Option Addr), m = k + 2 * j ∧ m ≤ o + 1 ∧ i = .int .i64 (m : Int) ∧ r = .slice A j c ∧ Own wr w.heap.size A j c ((second fs k).take j) ∧ Below w.heap.size w wr) (fun _ i _ => (o + 2 - (intOf i).toNat))
  case atStart => exact ⟨0, k, 0, none, by omega, by omega, rfl, rfl, O0.out, B0.out⟩
  case round =>
    obtain ⟨j, m, c, A, hm, hmo, rfl, rfl, hown, hbel⟩ := hrel
    have hjo : j ≤ 1048578 := by omega
    have HM := Lib.hid hm
    have z := hbel.size
    clear O0 B0 hm
    by_cases hlt : m < o
    case neg =>
      have i1 : ¬ ((m : Int) < (o : Int)) := by omega
      have HE := Lib.hid (show (second fs k).take j = second fs k by
        rw [second_all fs k j (by have := hl.out; have := HM.out; omega)])
      clear h
      go_wp2
      go_ret
      refine ⟨A, j, c, rfl, ?_, hbel⟩
      rw [← HE.out]
      exact hown
    have i1 : (m : Int) < (o : Int) := by omega
    have i0 : (0 : Int) ≤ (m : Int) := by omega
    obtain ⟨b, off, rfl, hb, hc⟩ := h.2 (by omega)
    have ce := (hbel.cell (p := ⟨b, off + m, none⟩) hb).trans (hc m hlt)
    have HX := Lib.hid (show (second fs k).take (j + 1) = (second fs k).take j ++ [fs.getD m 0] by
      have := HM.out
      subst this
      exact second_take fs k j (by have := hl.out; omega))
    generalize fs.getD m 0 = y at *
    have o2 := hown.below ((Below.refl _ wr).alloc (Nat.le_refl _) (.cells #[.int .i64 y] 2))
    have r2 := (own_one wr y).irow
    have zb : w.heap.size ≤ (wr.alloc (.cells #[.int .i64 y] 2)).heap.size := by simp; omega
    have HB := Lib.hid (hbel.alloc hbel.size (.cells #[.int .i64 y] 2))
    clear hc h hown hbel
    go_wp2_with (first
      | (at_builtin
         refine wpList_append_ints rfl (.tmp 14) (.tmp 19) rfl rfl o2 rfl r2 zb (by omega) ?_
         intro A3 c3 w3 o3 g3 e3))
    have R := Lib.hid (HB.out.grown g3 HB.out.size (fun p hp => (o2.ge p hp).1))
    go_roundw
    case rel => exact ⟨j + 1, m + 2, c3, A3, by have := HM.out; omega, by omega, by go_num, rfl, by rw [HX.out]; exact o3, R.out⟩
    case measure => simp [intOf]; omega

end Go.Proofs.Ytejcpoidoekleaa

namespace Go.Proofs.Ytejcpoidoekleaa
set_option maxRecDepth 100000
open Go.RowKit

theorem rdI {w : World} {B : Nat} {xs : List Int} {A : Option Addr} {n c : Nat} (h : Rd w B (rowCells xs) [.slice A n c]) : IRow w B A n xs ∧ n ≤ c ∧ c ≤ maxLen := by
  obtain ⟨_, _, _, e, hi, h1, h2⟩ := h.irow
  injection e with e1 e2 e3
  subst e1 e2 e3
  exact ⟨hi, h1, h2⟩
theorem rdI_len {w : World} {B : Nat} {xs : List Int} {A : Option Addr} {n c : Nat} (h : Rd w B (rowCells xs) [.slice A n c]) : xs.length = n := (rdI h).1.1

section
variable (A : Option Addr) (n c : Nat) (xs : List Int) (w : World)
theorem sUnsD (h : Rd w w.heap.size (rowCells xs) [.slice A n c]) (hs : xs.length ≤ 1048577) :
    Calls Try.prog 70 #[.slice A n c] w fun e w' => ∃ A' n' c', e = .returned (.tuple #[.slice A' n' c', .bool (unsummed xs).2]) ∧ Has w' w.heap.size (rowCells (unsummed xs).1) [.slice A' n' c'] ∧ Below w.heap.size w w' := by
  obtain ⟨hi, h1, _⟩ := rdI h
  refine (sUns_any A n c xs w hi (by rw [← hi.1]; exact hs) h1).mono ?_
  rintro e w1 ⟨A', n', c', rfl, o, b⟩
  exact ⟨A', n', c', rfl, o.has, b⟩
theorem iUnsD (h : Rd w w.heap.size (rowCells xs) [.slice A n c]) (hs : xs.length ≤ 1048577) :
    Calls Try.prog 60 #[.slice A n c] w fun e w' => ∃ A' n' c', e = .returned (.tuple #[.slice A' n' c', .bool (unsummed xs).2]) ∧ Has w' w.heap.size (rowCells (unsummed xs).1) [.slice A' n' c'] ∧ Below w.heap.size w w' := by
  obtain ⟨hi, h1, _⟩ := rdI h
  refine (iUns_any A n c xs w hi (by rw [← hi.1]; exact hs) h1).mono ?_
  rintro e w1 ⟨A', n', c', rfl, o, b⟩
  exact ⟨A', n', c', rfl, o.has, b⟩
theorem sWithD (h : Rd w w.heap.size (rowCells xs) [.slice A n c]) (hs : xs.length ≤ 1048577) :
    Calls Try.prog 78 #[.slice A n c] w fun e w' => ∃ A' n' c', e = .returned (.slice A' n' c') ∧ Has w' w.heap.size (rowCells (withSum xs)) [.slice A' n' c'] ∧ Below w.heap.size w w' := by
  obtain ⟨hi, h1, _⟩ := rdI h
  refine (sWith_any A n c xs w hi (by rw [← hi.1]; exact hs)).mono ?_
  rintro e w1 ⟨A', n', c', rfl, o, b⟩
  exact ⟨A', n', c', rfl, o.has, b⟩
theorem iWithD (h : Rd w w.heap.size (rowCells xs) [.slice A n c]) (hs : xs.length ≤ 1048577) :
    Calls Try.prog 49 #[.slice A n c] w fun e w' => ∃ A' n' c', e = .returned (.slice A' n' c') ∧ Has w' w.heap.size (rowCells (withSum xs)) [.slice A' n' c'] ∧ Below w.heap.size w w' := by
  obtain ⟨hi, h1, _⟩ := rdI h
  refine (iWith_any A n c xs w hi (by rw [← hi.1]; exact hs)).mono ?_
  rintro e w1 ⟨A', n', c', rfl, o, b⟩
  exact ⟨A', n', c', rfl, o.has, b⟩
variable (A' : Option Addr) (n' c' : Nat) (ys : List Int) (B B' : Nat)
theorem sSameD (h : Rd w B (rowCells xs) [.slice A n c]) (h' : Rd w B' (rowCells ys) [.slice A' n' c']) (hs : xs.length ≤ 1048577) (hs' : ys.length ≤ 1048577) :
    Calls Try.prog 71 #[.slice A n c, .slice A' n' c'] w fun e w' => e = .returned (.bool (sameI xs ys)) ∧ Below w.heap.size w w' := by
  obtain ⟨hi, _⟩ := rdI h
  obtain ⟨hj, _⟩ := rdI h'
  refine (sSame_any A A' n n' c c' B B' xs ys w hi hj (by rw [← hi.1]; exact hs) (by rw [← hj.1]; exact hs')).mono ?_
  rintro e w1 ⟨rfl, d⟩
  exact ⟨rfl, d.below _⟩
theorem iSameD (h : Rd w B (rowCells xs) [.slice A n c]) (h' : Rd w B' (rowCells ys) [.slice A' n' c']) (hs : xs.length ≤ 1048577) (hs' : ys.length ≤ 1048577) :
    Calls Try.prog 55 #[.slice A n c, .slice A' n' c'] w fun e w' => e = .returned (.bool (sameI xs ys)) ∧ Below w.heap.size w w' := by
  obtain ⟨hi, _⟩ := rdI h
  obtain ⟨hj, _⟩ := rdI h'
  refine (iSame_any A A' n n' c c' B B' xs ys w hi hj (by rw [← hi.1]; exact hs) (by rw [← hj.1]; exact hs')).mono ?_
  rintro e w1 ⟨rfl, rfl⟩
  exact ⟨rfl, Below.refl _ _⟩
end

theorem own_lit_rows {w : World} {p : Nat} (hp : w.heap.size = p) : Has (w.alloc (.cells #[] 35)) w.heap.size [keptD []] [.slice (some ⟨p, 0, none⟩) 0 0] := by
  subst hp
  have h1 := World.ownsRow_lit (base := 0) (e := 35) (size := 1) w #[] 0 (Nat.zero_le _) (Nat.zero_le _) rfl
  have h2 : Ow (w.alloc (.cells #[] 35)) [keptD []] [.slice (some ⟨w.heap.size, 0, none⟩) 0 0] [w.heap.size] := Ow.row (fp1 := []) (fp2 := []) h1 .nil .nil
  exact ⟨_, h2, by simp, fun p hm => by have : p = w.heap.size := by simpa using hm
                                        omega⟩
/-- One piece comes first. -/
theorem Sep.pick {w : World} {base : Nat} {is : List Item} (h : Sep w base is) (n : Nat) {i : Item} (hn : is[n]? = some i) : Sep w base (i :: is.eraseIdx n) := by
  have hlt : n < is.length := by
    rcases Nat.lt_or_ge n is.length with h | h
    · exact h
    · rw [List.getElem?_eq_none h] at hn; cases hn
  have e2 : is[n] = i := by rw [List.getElem?_eq_getElem hlt] at hn; injection hn
  refine h.of_perm ?_
  rw [List.eraseIdx_eq_take_drop_succ, ← e2]
  have e1 : is = is.take n ++ (is[n] :: is.drop (n + 1)) := by rw [← List.drop_eq_getElem_cons hlt, List.take_append_drop]
  exact (List.Perm.of_eq e1).trans List.perm_middle

end Go.Proofs.Ytejcpoidoekleaa

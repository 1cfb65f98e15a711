/- Parts of my texts: Ent. -/
import Derived.Test.YthjjdelpdiipdaaGreatDoorMX1
import Derived.RegionTactic
namespace Go.Proofs.YthjjdelpdiipdaaGreatDoor
set_option maxRecDepth 100000
set_option linter.unusedVariables false
open Go.RowKit
structure OpM where
 kind : Int
 a : Int
 b : Int
 c : Int
 d : Int
def opC (x : OpM) : List Dat := [.int x.kind, .int x.a, .int x.b, .int x.c, .int x.d]
set_option maxHeartbeats 1600000 in
theorem toOp_any (x0 x1 x2 x3 x4 : Int) (w : World) :
    Calls Tryz.prog 151 #[.agg #[.int .i64 x0, .int .i64 x1, .int .i64 x2, .int .i64 x3, .int .i64 x4]] w fun e w' => e = .returned (.agg #[.int .i64 x0, .int .i64 x1, .int .i64 x2, .int .i64 x3, .int .i64 x4]) ∧ Below w.heap.size w w' := by
 have C := jd ((((Below.refl w.heap.size w).alloc (Nat.le_refl _) (.cells #[.int .i64 x0, .int .i64 x1, .int .i64 x2, .int .i64 x3, .int .i64 x4] 151)).alloc (by simp) (.cells #[.int .i64 x0, .int .i64 x1, .int .i64 x2, .int .i64 x3, .int .i64 x4] 96)).alloc (by simp; omega) (.cells #[.int .i64 x0, .int .i64 x1, .int .i64 x2, .int .i64 x3, .int .i64 x4] 96))
 go_enter Tryz.func151, Tryz.ntmps151
 go_wp2
 exact bodyPost_ret (v := .agg #[.int .i64 x0, .int .i64 x1, .int .i64 x2, .int .i64 x3, .int .i64 x4]) (by simp [results, Tryz.results151, go_sem]) rfl ⟨rfl, C.out⟩
set_option maxHeartbeats 1600000 in
theorem eqOp_one (x0 x1 x2 x3 x4 : Int) (w : World) :
    Calls Tryz.prog 93 #[.agg #[.int .i64 x0, .int .i64 x1, .int .i64 x2, .int .i64 x3, .int .i64 x4], .agg #[.int .i64 x0, .int .i64 x1, .int .i64 x2, .int .i64 x3, .int .i64 x4]] w fun e w' => e = .returned (.bool true) ∧ Below w.heap.size w w' := by
 have b0 : Below w.heap.size w ((w.alloc (.cells #[.int .i64 x0, .int .i64 x1, .int .i64 x2, .int .i64 x3, .int .i64 x4] 96)).alloc (.cells #[.int .i64 x0, .int .i64 x1, .int .i64 x2, .int .i64 x3, .int .i64 x4] 96)) :=
  ((Below.refl _ w).alloc (Nat.le_refl _) _).alloc (by simp) _
 have B0 := jd b0
 clear b0
 go_enter Tryz.func93, Tryz.ntmps93
 go_wp2
 go_ret
 exact ⟨rfl, B0.out⟩
structure EntM where
 idx : Int
 tm : Int
 cl : Int
 sq : Int
 kd : Int
 oa : Int
 ob : Int
 oc : Int
 od : Int
def entC (x : EntM) : List Dat := [.int x.idx, .int x.tm, .int x.cl, .int x.sq, .int x.kd, .int x.oa, .int x.ob, .int x.oc, .int x.od]
theorem entC_len (x : EntM) : (entC x).length = 9 := rfl
def entD (l : List EntM) : Dat := lst 98 9 entC l
def entSz (l : List EntM) : Nat := l.length
def entNs (x : EntM) : List Int := x.idx :: x.tm :: x.cl :: x.sq :: x.kd :: x.oa :: x.ob :: x.oc :: x.od :: []
def entN (l : List EntM) : Nat := nums entNs l l.length
def MarkedEntryS (l : List EntM) (k : Int) : Prop := l.flatMap entNs = upFrom k (l.flatMap entNs).length
def MadeEntryS (w : World) (l : List EntM) (e : Ending) (w' : World) : Prop :=
 ∃ A n c, e = .returned (.slice A n c) ∧ Has w' w.heap.size [entD l] [.slice A n c] ∧ Below w.heap.size w w'
theorem infoEntry : (Tryz.prog.info? 98).map (fun i => (i.zero, i.size, i.bytes)) = some (some (.agg #[.int .i64 0, .int .i64 0, .int .i64 0, .int .i64 0, .int .i64 0, .int .i64 0, .int .i64 0, .int .i64 0, .int .i64 0]), 9, 72) := by kernel_rfl
theorem ow_zero_ent (w : World) : Ow w (entC (⟨0, 0, 0, 0, 0, 0, 0, 0, 0⟩ : EntM)) [.int .i64 0, .int .i64 0, .int .i64 0, .int .i64 0, .int .i64 0, .int .i64 0, .int .i64 0, .int .i64 0, .int .i64 0] [] := .int (.int (.int (.int (.int (.int (.int (.int (.int (.nil)))))))))
theorem Rd.ents {w : World} {B : Nat} {v0 : Value} {l : List EntM} (h : Rd w B [entD l] [v0]) : ∃ A n c, v0 = .slice A n c ∧ l.length = n ∧ n ≤ c ∧ c ≤ maxLen ∧
    (0 < n → ∃ b off, A = some ⟨b, off, none⟩ ∧ b < B ∧ ∀ j (hj : j < l.length), w.cell? ⟨b, off + j * 9, none⟩ = some (.int .i64 l[j].idx) ∧ w.cell? ⟨b, off + j * 9 + 1, none⟩ = some (.int .i64 l[j].tm) ∧ w.cell? ⟨b, off + j * 9 + 2, none⟩ = some (.int .i64 l[j].cl) ∧ w.cell? ⟨b, off + j * 9 + 3, none⟩ = some (.int .i64 l[j].sq) ∧ w.cell? ⟨b, off + j * 9 + 4, none⟩ = some (.int .i64 l[j].kd) ∧ w.cell? ⟨b, off + j * 9 + 5, none⟩ = some (.int .i64 l[j].oa) ∧ w.cell? ⟨b, off + j * 9 + 6, none⟩ = some (.int .i64 l[j].ob) ∧ w.cell? ⟨b, off + j * 9 + 7, none⟩ = some (.int .i64 l[j].oc) ∧ w.cell? ⟨b, off + j * 9 + 8, none⟩ = some (.int .i64 l[j].od)) := by
 obtain ⟨A, n, c, rfl, hl, h1, h2, h3⟩ := Rd.lst (k := 9) entC_len (by decide) h
 refine ⟨A, n, c, rfl, hl, h1, h2, fun hn => ?_⟩
 obtain ⟨b, off, rfl, hb, hc⟩ := h3 hn
 refine ⟨b, off, rfl, hb, fun j hj => ?_⟩
 obtain ⟨es, he, hr, hcell⟩ := hc j hj
 match es, he with
 | [u0, u1, u2, u3, u4, u5, u6, u7, u8], _ =>
  have h0' := hcell 0 (by omega)
  have h1' := hcell 1 (by omega)
  have h2' := hcell 2 (by omega)
  have h3' := hcell 3 (by omega)
  have h4' := hcell 4 (by omega)
  have h5' := hcell 5 (by omega)
  have h6' := hcell 6 (by omega)
  have h7' := hcell 7 (by omega)
  have h8' := hcell 8 (by omega)
  simp only [Nat.add_zero] at h0'
  have g0 : Rd w B (entC l[j]) [u0, u1, u2, u3, u4, u5, u6, u7, u8] := hr
  obtain ⟨e0, g1⟩ := Rd.int_cons g0
  obtain ⟨e1, g2⟩ := Rd.int_cons g1
  obtain ⟨e2, g3⟩ := Rd.int_cons g2
  obtain ⟨e3, g4⟩ := Rd.int_cons g3
  obtain ⟨e4, g5⟩ := Rd.int_cons g4
  obtain ⟨e5, g6⟩ := Rd.int_cons g5
  obtain ⟨e6, g7⟩ := Rd.int_cons g6
  obtain ⟨e7, g8⟩ := Rd.int_cons g7
  obtain ⟨e8, g9⟩ := Rd.int_cons g8
  subst e0
  subst e1
  subst e2
  subst e3
  subst e4
  subst e5
  subst e6
  subst e7
  subst e8
  exact ⟨h0', h1', h2', h3', h4', h5', h6', h7', h8'⟩
theorem Ow.ent {w : World} {x : EntM} {y0 y1 y2 y3 y4 y5 y6 y7 y8 : Value} {f2 : List Nat} (h : Ow w (entC x) [y0, y1, y2, y3, y4, y5, y6, y7, y8] f2) : y0 = .int .i64 x.idx ∧ y1 = .int .i64 x.tm ∧ y2 = .int .i64 x.cl ∧ y3 = .int .i64 x.sq ∧ y4 = .int .i64 x.kd ∧ y5 = .int .i64 x.oa ∧ y6 = .int .i64 x.ob ∧ y7 = .int .i64 x.oc ∧ y8 = .int .i64 x.od ∧ f2 = [] := by
 have g0 : Ow w (entC x) [y0, y1, y2, y3, y4, y5, y6, y7, y8] f2 := h
 obtain ⟨e0, g1⟩ := Ow.int_cons g0
 obtain ⟨e1, g2⟩ := Ow.int_cons g1
 obtain ⟨e2, g3⟩ := Ow.int_cons g2
 obtain ⟨e3, g4⟩ := Ow.int_cons g3
 obtain ⟨e4, g5⟩ := Ow.int_cons g4
 obtain ⟨e5, g6⟩ := Ow.int_cons g5
 obtain ⟨e6, g7⟩ := Ow.int_cons g6
 obtain ⟨e7, g8⟩ := Ow.int_cons g7
 obtain ⟨e8, g9⟩ := Ow.int_cons g8
 exact ⟨e0, e1, e2, e3, e4, e5, e6, e7, e8, Ow.nil_foot g9⟩
theorem entN_eq (l : List EntM) : (l.map (fun r => (entNs r).length)).sum = 9 * l.length := by
 induction l with
 | nil => rfl
 | cons x l ih =>
  rw [List.map_cons, List.sum_cons, ih, List.length_cons]
  have h1 : (entNs x).length = 9 := rfl
  omega
theorem entN_le (l : List EntM) : entN l ≤ 9 * entSz l := by
 unfold entN nums
 rw [pre_all, entN_eq]
 unfold entSz
 omega
theorem entSz_map {l l' : List EntM} (h : l'.map (fun r => (entNs r).length) = l.map (fun r => (entNs r).length)) : entSz l' = entSz l := by
 have h1 := len_of_map h
 exact h1
set_option maxHeartbeats 3200000 in
theorem toEntry_any (x0 x1 x2 x3 x4 x5 x6 x7 x8 : Int) (w : World) :
    Calls Tryz.prog 114 #[.agg #[.int .i64 x0, .int .i64 x1, .int .i64 x2, .int .i64 x3, .int .i64 x4, .int .i64 x5, .int .i64 x6, .int .i64 x7, .int .i64 x8]] w fun e w' => e = .returned (.agg #[.int .i64 x0, .int .i64 x1, .int .i64 x2, .int .i64 x3, .int .i64 x4, .int .i64 x5, .int .i64 x6, .int .i64 x7, .int .i64 x8]) ∧ Below w.heap.size w w' := by
 have S := Sep.nil w w.heap.size
 have c := Below.refl w.heap.size w
 replace S := S.boxAt c.size (w.heap.size) rfl #[.int .i64 x0, .int .i64 x1, .int .i64 x2, .int .i64 x3, .int .i64 x4, .int .i64 x5, .int .i64 x6, .int .i64 x7, .int .i64 x8] 153
 replace c := al c S
 replace S := S.boxAt c.size (w.heap.size + 1) (by simp) #[.int .i64 0, .int .i64 0, .int .i64 0, .int .i64 0, .int .i64 0, .int .i64 0, .int .i64 0, .int .i64 0, .int .i64 0] 98
 replace c := al c S
 replace S := S.boxAt c.size (w.heap.size + 1 + 1) (by simp) #[.int .i64 x0, .int .i64 x1, .int .i64 x2, .int .i64 x3, .int .i64 0, .int .i64 0, .int .i64 0, .int .i64 0, .int .i64 0] 98
 replace c := al c S
 go_enter Tryz.func114, Tryz.ntmps114
 have f0 := lk S 2 4 rfl rfl
 have f1 := lk S 2 5 rfl rfl
 have f2 := lk S 2 6 rfl rfl
 have f3 := lk S 2 7 rfl rfl
 have f4 := lk S 2 8 rfl rfl
 go_wp2_with fail
 generalize ((w.alloc (.cells #[.int .i64 x0, .int .i64 x1, .int .i64 x2, .int .i64 x3, .int .i64 x4, .int .i64 x5, .int .i64 x6, .int .i64 x7, .int .i64 x8] 153)).alloc (.cells #[.int .i64 0, .int .i64 0, .int .i64 0, .int .i64 0, .int .i64 0, .int .i64 0, .int .i64 0, .int .i64 0, .int .i64 0] 98)).alloc (.cells #[.int .i64 x0, .int .i64 x1, .int .i64 x2, .int .i64 x3, .int .i64 0, .int .i64 0, .int .i64 0, .int .i64 0, .int .i64 0] 98) = w1 at *
 refine (toOp_any x4 x5 x6 x7 x8 _).mono ?_
 rintro e w2 ⟨rfl, b⟩
 replace c := c.trans (b.mono c.size)
 replace S := S.keep b
 clear b f0 f1 f2 f3 f4
 have f5 := lk S 0 0 rfl rfl
 have f6 := (S.at_ 0 rfl).free 0
 have f7 := lk S 0 1 rfl rfl
 have f8 := (S.at_ 0 rfl).free 1
 have f9 := lk S 0 2 rfl rfl
 have f10 := (S.at_ 0 rfl).free 2
 have f11 := lk S 0 3 rfl rfl
 have f12 := (S.at_ 0 rfl).free 3
 have f13 := lk S 0 4 rfl rfl
 have f14 := (S.at_ 0 rfl).free 4
 have f15 := lk S 0 5 rfl rfl
 have f16 := (S.at_ 0 rfl).free 5
 have f17 := lk S 0 6 rfl rfl
 have f18 := (S.at_ 0 rfl).free 6
 have f19 := lk S 0 7 rfl rfl
 have f20 := (S.at_ 0 rfl).free 7
 have f21 := lk S 0 8 rfl rfl
 have f22 := (S.at_ 0 rfl).free 8
 have f23 := lk S 1 0 rfl rfl
 have f24 := (S.at_ 1 rfl).free 0
 have f25 := lk S 1 1 rfl rfl
 have f26 := (S.at_ 1 rfl).free 1
 have f27 := lk S 1 2 rfl rfl
 have f28 := (S.at_ 1 rfl).free 2
 have f29 := lk S 1 3 rfl rfl
 have f30 := (S.at_ 1 rfl).free 3
 have f31 := lk S 1 4 rfl rfl
 have f32 := (S.at_ 1 rfl).free 4
 have f33 := lk S 1 5 rfl rfl
 have f34 := (S.at_ 1 rfl).free 5
 have f35 := lk S 1 6 rfl rfl
 have f36 := (S.at_ 1 rfl).free 6
 have f37 := lk S 1 7 rfl rfl
 have f38 := (S.at_ 1 rfl).free 7
 have f39 := lk S 1 8 rfl rfl
 have f40 := (S.at_ 1 rfl).free 8
 replace S := S.put 0 rfl 4 (.int .i64 x4)
 replace c := st c S (by omega)
 replace S := S.put 0 rfl 5 (.int .i64 x5)
 replace c := st c S (by omega)
 replace S := S.put 0 rfl 6 (.int .i64 x6)
 replace c := st c S (by omega)
 replace S := S.put 0 rfl 7 (.int .i64 x7)
 replace c := st c S (by omega)
 replace S := S.put 0 rfl 8 (.int .i64 x8)
 replace c := st c S (by omega)
 replace S := S.put 1 rfl 0 (.int .i64 x0)
 replace c := st c S (by omega)
 replace S := S.put 1 rfl 1 (.int .i64 x1)
 replace c := st c S (by omega)
 replace S := S.put 1 rfl 2 (.int .i64 x2)
 replace c := st c S (by omega)
 replace S := S.put 1 rfl 3 (.int .i64 x3)
 replace c := st c S (by omega)
 replace S := S.put 1 rfl 4 (.int .i64 x4)
 replace c := st c S (by omega)
 replace S := S.put 1 rfl 5 (.int .i64 x5)
 replace c := st c S (by omega)
 replace S := S.put 1 rfl 6 (.int .i64 x6)
 replace c := st c S (by omega)
 replace S := S.put 1 rfl 7 (.int .i64 x7)
 replace c := st c S (by omega)
 replace S := S.put 1 rfl 8 (.int .i64 x8)
 replace c := st c S (by omega)
 have C := jd c
 have HF := jd S
 have r0 := jd ((S.at_ 1 rfl).cell 0)
 have r1 := jd ((S.at_ 1 rfl).cell 1)
 have r2 := jd ((S.at_ 1 rfl).cell 2)
 have r3 := jd ((S.at_ 1 rfl).cell 3)
 have r4 := jd ((S.at_ 1 rfl).cell 4)
 have r5 := jd ((S.at_ 1 rfl).cell 5)
 have r6 := jd ((S.at_ 1 rfl).cell 6)
 have r7 := jd ((S.at_ 1 rfl).cell 7)
 have r8 := jd ((S.at_ 1 rfl).cell 8)
 clear S c
 go_wp2
 exact bodyPost_ret (v := .agg #[.int .i64 x0, .int .i64 x1, .int .i64 x2, .int .i64 x3, .int .i64 x4, .int .i64 x5, .int .i64 x6, .int .i64 x7, .int .i64 x8]) (by simp [results, Tryz.results114, go_sem, r0.out, r1.out, r2.out, r3.out, r4.out, r5.out, r6.out, r7.out, r8.out]) rfl ⟨rfl, C.out⟩
set_option maxHeartbeats 3200000 in
theorem toEntryS_made (A : Option Addr) (n c : Nat) (l : List EntM) (w : World) (h : Rd w w.heap.size [entD l] [.slice A n c]) (hs : entSz l ≤ 1048576) :
    Calls Tryz.prog 76 #[.slice A n c] w (MadeEntryS w l) := by
 obtain ⟨A', n', c', e, hl, hnc, hcm, hel⟩ := h.ents
 injection e with e1 e2 e3
 subst e1 e2 e3
 have hn : n ≤ 1048576 := by unfold entSz at hs; omega
 have HS := jd hs
 have HL := jd hl
 have hmk := run_make_k (P := Tryz.prog) 47 98 (.agg #[.int .i64 0, .int .i64 0, .int .i64 0, .int .i64 0, .int .i64 0, .int .i64 0, .int .i64 0, .int .i64 0, .int .i64 0]) #[.int .i64 0, .int .i64 0, .int .i64 0, .int .i64 0, .int .i64 0, .int .i64 0, .int .i64 0, .int .i64 0, .int .i64 0] 9 72 Tryz.underlying47 infoEntry rfl .i64 .i64 n (by omega) (by omega)
 have O0 := jd (ow_made (w := w) (e := 98) (f := entC) (x0 := (⟨0, 0, 0, 0, 0, 0, 0, 0, 0⟩ : EntM)) (zc := #[.int .i64 0, .int .i64 0, .int .i64 0, .int .i64 0, .int .i64 0, .int .i64 0, .int .i64 0, .int .i64 0, .int .i64 0]) (k := 9) rfl (by decide) n (by simp only [maxLen]; omega) ow_zero_ent)
 have B0 := jd ((Below.refl w.heap.size w).alloc (Nat.le_refl _) (.cells (madeCells #[.int .i64 0, .int .i64 0, .int .i64 0, .int .i64 0, .int .i64 0, .int .i64 0, .int .i64 0, .int .i64 0, .int .i64 0] (n * 9)) 98))
 clear hl hs h
 go_enter Tryz.func76, Tryz.ntmps76
 go_wp2
 go_loopw [4] (fun i wr => ∃ (j : Nat) (fp : List Nat), j ≤ n ∧ i = .int .i64 (j : Int) ∧ Ow wr [entD (l.take j ++ List.replicate (n - j) (⟨0, 0, 0, 0, 0, 0, 0, 0, 0⟩ : EntM))] [.slice (some ⟨w.heap.size, 0, none⟩) n n] fp ∧ fp.Nodup ∧ (∀ p ∈ fp, w.heap.size ≤ p) ∧ Below w.heap.size w wr) (fun i _ => n - (intOf i).toNat)
 case atStart => exact ⟨0, _, Nat.zero_le _, rfl, O0.out, by simp, by simp, B0.out⟩
 case round =>
  obtain ⟨j, fp, hj, rfl, hown, hnd, hge, hbel⟩ := hrel
  clear hmk O0 B0
  by_cases hlt : j < n
  · obtain ⟨b, off, rfl, hb, hc⟩ := hel (by omega)
    have hjl : j < l.length := by have := HL.out; omega
    obtain ⟨hc0, hc1, hc2, hc3, hc4, hc5, hc6, hc7, hc8⟩ := hc j hjl
    have cs0 := (hbel.cell (p := ⟨b, off + j * 9, none⟩) hb).trans hc0
    have cs1 := (hbel.cell (p := ⟨b, off + j * 9 + 1, none⟩) hb).trans hc1
    have cs2 := (hbel.cell (p := ⟨b, off + j * 9 + 2, none⟩) hb).trans hc2
    have cs3 := (hbel.cell (p := ⟨b, off + j * 9 + 3, none⟩) hb).trans hc3
    have cs4 := (hbel.cell (p := ⟨b, off + j * 9 + 4, none⟩) hb).trans hc4
    have cs5 := (hbel.cell (p := ⟨b, off + j * 9 + 5, none⟩) hb).trans hc5
    have cs6 := (hbel.cell (p := ⟨b, off + j * 9 + 6, none⟩) hb).trans hc6
    have cs7 := (hbel.cell (p := ⟨b, off + j * 9 + 7, none⟩) hb).trans hc7
    have cs8 := (hbel.cell (p := ⟨b, off + j * 9 + 8, none⟩) hb).trans hc8
    obtain ⟨x0, hx0⟩ : ∃ x0, x0 = l[j].idx := ⟨_, rfl⟩
    obtain ⟨x1, hx1⟩ : ∃ x1, x1 = l[j].tm := ⟨_, rfl⟩
    obtain ⟨x2, hx2⟩ : ∃ x2, x2 = l[j].cl := ⟨_, rfl⟩
    obtain ⟨x3, hx3⟩ : ∃ x3, x3 = l[j].sq := ⟨_, rfl⟩
    obtain ⟨x4, hx4⟩ : ∃ x4, x4 = l[j].kd := ⟨_, rfl⟩
    obtain ⟨x5, hx5⟩ : ∃ x5, x5 = l[j].oa := ⟨_, rfl⟩
    obtain ⟨x6, hx6⟩ : ∃ x6, x6 = l[j].ob := ⟨_, rfl⟩
    obtain ⟨x7, hx7⟩ : ∃ x7, x7 = l[j].oc := ⟨_, rfl⟩
    obtain ⟨x8, hx8⟩ : ∃ x8, x8 = l[j].od := ⟨_, rfl⟩
    rw [← hx0] at cs0
    rw [← hx1] at cs1
    rw [← hx2] at cs2
    rw [← hx3] at cs3
    rw [← hx4] at cs4
    rw [← hx5] at cs5
    rw [← hx6] at cs6
    rw [← hx7] at cs7
    rw [← hx8] at cs8
    have HX := jd (show l[j] = ⟨x0, x1, x2, x3, x4, x5, x6, x7, x8⟩ by rw [hx0, hx1, hx2, hx3, hx4, hx5, hx6, hx7, hx8])
    clear hx0 hx1 hx2 hx3 hx4 hx5 hx6 hx7 hx8 hc hc0 hc1 hc2 hc3 hc4 hc5 hc6 hc7 hc8
    go_wp2_with fail
    refine (toEntry_any x0 x1 x2 x3 x4 x5 x6 x7 x8 _).mono ?_
    rintro e w1 ⟨rfl, b1⟩
    have hown1 := hown.keep b1
    have hl2 : (l.take j ++ List.replicate (n - j) (⟨0, 0, 0, 0, 0, 0, 0, 0, 0⟩ : EntM)).length = n := by simp; have := HL.out; omega
    obtain ⟨es, he, hcell, hfr⟩ := Ow.slots (k := 9) entC_len (by decide) hown1 (j := j) (by omega)
    have ck0 := hcell 0 (by decide)
    have ck1 := hcell 1 (by decide)
    have ck2 := hcell 2 (by decide)
    have ck3 := hcell 3 (by decide)
    have ck4 := hcell 4 (by decide)
    have ck5 := hcell 5 (by decide)
    have ck6 := hcell 6 (by decide)
    have ck7 := hcell 7 (by decide)
    have ck8 := hcell 8 (by decide)
    rw [Nat.add_zero] at ck0
    match es, he with
    | [y0, y1, y2, y3, y4, y5, y6, y7, y8], _ =>
    have ck0' : w1.cell? ⟨w.heap.size, j * 9, none⟩ = some y0 := ck0
    have ck1' : w1.cell? ⟨w.heap.size, j * 9 + 1, none⟩ = some y1 := ck1
    have ck2' : w1.cell? ⟨w.heap.size, j * 9 + 2, none⟩ = some y2 := ck2
    have ck3' : w1.cell? ⟨w.heap.size, j * 9 + 3, none⟩ = some y3 := ck3
    have ck4' : w1.cell? ⟨w.heap.size, j * 9 + 4, none⟩ = some y4 := ck4
    have ck5' : w1.cell? ⟨w.heap.size, j * 9 + 5, none⟩ = some y5 := ck5
    have ck6' : w1.cell? ⟨w.heap.size, j * 9 + 6, none⟩ = some y6 := ck6
    have ck7' : w1.cell? ⟨w.heap.size, j * 9 + 7, none⟩ = some y7 := ck7
    have ck8' : w1.cell? ⟨w.heap.size, j * 9 + 8, none⟩ = some y8 := ck8
    have fk0 := hfr (j * 9)
    have fk1 := hfr (j * 9 + 1)
    have fk2 := hfr (j * 9 + 2)
    have fk3 := hfr (j * 9 + 3)
    have fk4 := hfr (j * 9 + 4)
    have fk5 := hfr (j * 9 + 5)
    have fk6 := hfr (j * 9 + 6)
    have fk7 := hfr (j * 9 + 7)
    have fk8 := hfr (j * 9 + 8)
    have ho : Ow w1 (entC ⟨x0, x1, x2, x3, x4, x5, x6, x7, x8⟩) [.int .i64 x0, .int .i64 x1, .int .i64 x2, .int .i64 x3, .int .i64 x4, .int .i64 x5, .int .i64 x6, .int .i64 x7, .int .i64 x8] [] := .int (.int (.int (.int (.int (.int (.int (.int (.int (.nil)))))))))
    have hfresh : ∀ p ∈ ([] : List Nat), wr.heap.size ≤ p := fun p hp => by cases hp
    have hold := hown.lt
    obtain ⟨ht, fp', hfin, hnd', hsub⟩ := Ow.store (k := 9) entC_len (by decide) hown1 hnd (j := j) (x := ⟨x0, x1, x2, x3, x4, x5, x6, x7, x8⟩) (by omega) ho List.nodup_nil (fun p hp hm => by have := hfresh p hp; have := hold p hm; omega)
    have z := hbel.size
    have R1 := jd (show Ow (puts w1 w.heap.size (j * 9) [.int .i64 x0, .int .i64 x1, .int .i64 x2, .int .i64 x3, .int .i64 x4, .int .i64 x5, .int .i64 x6, .int .i64 x7, .int .i64 x8]) [entD (l.take (j + 1) ++ List.replicate (n - (j + 1)) (⟨0, 0, 0, 0, 0, 0, 0, 0, 0⟩ : EntM))] [.slice (some ⟨w.heap.size, 0, none⟩) n n] fp' by
     have h1 := fill_step (x0 := (⟨0, 0, 0, 0, 0, 0, 0, 0, 0⟩ : EntM)) HL.out hjl
     rw [HX.out] at h1
     rw [← h1]
     exact hfin)
    have R2 := jd (show ∀ p ∈ fp', w.heap.size ≤ p from fun p hp => by
     rcases hsub p hp with h | h
     · exact hge p h
     · have := hfresh p h; omega)
    have b01 := hbel.trans (b1.mono hbel.size)
    have R3 := jd (show Below w.heap.size w (puts w1 w.heap.size (j * 9) [.int .i64 x0, .int .i64 x1, .int .i64 x2, .int .i64 x3, .int .i64 x4, .int .i64 x5, .int .i64 x6, .int .i64 x7, .int .i64 x8]) from b01.trans (ht.below (by simp) b01.size))
    have R4 := jd hnd'
    clear hown hown1 hfin hnd' hsub ht ho b1 b01 hcell hfr ck0 ck1 ck2 ck3 ck4 ck5 ck6 ck7 ck8 hbel hl2 hfresh hold
    go_wp2
    go_roundw
    case rel => exact ⟨j + 1, fp', by omega, by go_num, R1.out, R4.out, R2.out, R3.out⟩
    case measure => simp [intOf]; omega
  · go_wp2
    go_ret
    have e : n - j = 0 := by omega
    rw [e, List.replicate_zero, List.append_nil, List.take_of_length_le (by have := HL.out; omega)] at hown
    exact ⟨_, _, _, rfl, ⟨fp, hown, hnd, hge⟩, hbel⟩
set_option maxHeartbeats 1600000 in
theorem eqEntry_one (x0 x1 x2 x3 x4 x5 x6 x7 x8 : Int) (w : World) :
    Calls Tryz.prog 51 #[.agg #[.int .i64 x0, .int .i64 x1, .int .i64 x2, .int .i64 x3, .int .i64 x4, .int .i64 x5, .int .i64 x6, .int .i64 x7, .int .i64 x8], .agg #[.int .i64 x0, .int .i64 x1, .int .i64 x2, .int .i64 x3, .int .i64 x4, .int .i64 x5, .int .i64 x6, .int .i64 x7, .int .i64 x8]] w fun e w' => e = .returned (.bool true) ∧ Below w.heap.size w w' := by
 have b0 : Below w.heap.size w ((w.alloc (.cells #[.int .i64 x0, .int .i64 x1, .int .i64 x2, .int .i64 x3, .int .i64 x4, .int .i64 x5, .int .i64 x6, .int .i64 x7, .int .i64 x8] 98)).alloc (.cells #[.int .i64 x0, .int .i64 x1, .int .i64 x2, .int .i64 x3, .int .i64 x4, .int .i64 x5, .int .i64 x6, .int .i64 x7, .int .i64 x8] 98)) :=
  ((Below.refl _ w).alloc (Nat.le_refl _) _).alloc (by simp) _
 have B0 := jd b0
 clear b0
 go_enter Tryz.func51, Tryz.ntmps51
 go_wp2_with (first | (go_at_call 93; refine (eqOp_one x4 x5 x6 x7 x8 _).mono ?_; rintro e w1 ⟨rfl, b1⟩))
 have B1 := jd (B0.out.trans (b1.mono B0.out.size))
 go_ret
 exact ⟨rfl, B1.out⟩
set_option maxHeartbeats 3200000 in
theorem eqEntryS_yes (A A' : Option Addr) (n n' c c' B B' : Nat) (l : List EntM) (w : World) (h : Rd w B [entD l] [.slice A n c]) (h' : Rd w B' [entD l] [.slice A' n' c']) (hB : B ≤ w.heap.size) (hB' : B' ≤ w.heap.size) (hs : entSz l ≤ 1048577) :
    Calls Tryz.prog 13 #[.slice A n c, .slice A' n' c'] w fun e w' => e = .returned (.bool true) ∧ Below w.heap.size w w' := by
 obtain ⟨_, _, _, e, hl, _, _, hel⟩ := h.ents
 injection e with e1 e2 e3
 subst e1 e2 e3
 obtain ⟨_, _, _, e, hl', _, _, hel'⟩ := h'.ents
 injection e with e1 e2 e3
 subst e1 e2 e3
 obtain rfl : n = n' := by rw [← hl, hl']
 have hn : n ≤ 1048577 := by unfold entSz at hs; omega
 have HS := jd hs
 have HL := jd hl
 clear hl hl' hs h h'
 go_enter Tryz.func13, Tryz.ntmps13
 go_wp2
 go_loopw [5] (fun i wr => ∃ j : Nat, j ≤ n ∧ i = .int .i64 (j : Int) ∧ Below w.heap.size w wr) (fun i _ => n - (intOf i).toNat)
 case atStart => exact ⟨0, Nat.zero_le _, rfl, Below.refl _ _⟩
 case round =>
  obtain ⟨j, hj, rfl, hbel⟩ := hrel
  by_cases hlt : j < n
  · obtain ⟨b, off, rfl, hb, hc⟩ := hel (by omega)
    obtain ⟨b', off', rfl, hb', hc'⟩ := hel' (by omega)
    have hjl : j < l.length := by have := HL.out; omega
    obtain ⟨hc0, hc1, hc2, hc3, hc4, hc5, hc6, hc7, hc8⟩ := hc j hjl
    obtain ⟨hd0, hd1, hd2, hd3, hd4, hd5, hd6, hd7, hd8⟩ := hc' j hjl
    have cs0 := (hbel.cell (p := ⟨b, off + j * 9, none⟩) (show b < _ by omega)).trans hc0
    have cs1 := (hbel.cell (p := ⟨b, off + j * 9 + 1, none⟩) (show b < _ by omega)).trans hc1
    have cs2 := (hbel.cell (p := ⟨b, off + j * 9 + 2, none⟩) (show b < _ by omega)).trans hc2
    have cs3 := (hbel.cell (p := ⟨b, off + j * 9 + 3, none⟩) (show b < _ by omega)).trans hc3
    have cs4 := (hbel.cell (p := ⟨b, off + j * 9 + 4, none⟩) (show b < _ by omega)).trans hc4
    have cs5 := (hbel.cell (p := ⟨b, off + j * 9 + 5, none⟩) (show b < _ by omega)).trans hc5
    have cs6 := (hbel.cell (p := ⟨b, off + j * 9 + 6, none⟩) (show b < _ by omega)).trans hc6
    have cs7 := (hbel.cell (p := ⟨b, off + j * 9 + 7, none⟩) (show b < _ by omega)).trans hc7
    have cs8 := (hbel.cell (p := ⟨b, off + j * 9 + 8, none⟩) (show b < _ by omega)).trans hc8
    have ct0 := (hbel.cell (p := ⟨b', off' + j * 9, none⟩) (show b' < _ by omega)).trans hd0
    have ct1 := (hbel.cell (p := ⟨b', off' + j * 9 + 1, none⟩) (show b' < _ by omega)).trans hd1
    have ct2 := (hbel.cell (p := ⟨b', off' + j * 9 + 2, none⟩) (show b' < _ by omega)).trans hd2
    have ct3 := (hbel.cell (p := ⟨b', off' + j * 9 + 3, none⟩) (show b' < _ by omega)).trans hd3
    have ct4 := (hbel.cell (p := ⟨b', off' + j * 9 + 4, none⟩) (show b' < _ by omega)).trans hd4
    have ct5 := (hbel.cell (p := ⟨b', off' + j * 9 + 5, none⟩) (show b' < _ by omega)).trans hd5
    have ct6 := (hbel.cell (p := ⟨b', off' + j * 9 + 6, none⟩) (show b' < _ by omega)).trans hd6
    have ct7 := (hbel.cell (p := ⟨b', off' + j * 9 + 7, none⟩) (show b' < _ by omega)).trans hd7
    have ct8 := (hbel.cell (p := ⟨b', off' + j * 9 + 8, none⟩) (show b' < _ by omega)).trans hd8
    generalize l[j].idx = x0 at *
    generalize l[j].tm = x1 at *
    generalize l[j].cl = x2 at *
    generalize l[j].sq = x3 at *
    generalize l[j].kd = x4 at *
    generalize l[j].oa = x5 at *
    generalize l[j].ob = x6 at *
    generalize l[j].oc = x7 at *
    generalize l[j].od = x8 at *
    have i0 : (0 : Int) ≤ (j : Int) := by omega
    have i1 : (j : Int) < (n : Int) := by omega
    have z := hbel.size
    have HB := jd hbel
    clear hc hc' hc0 hd0 hc1 hd1 hc2 hd2 hc3 hd3 hc4 hd4 hc5 hd5 hc6 hd6 hc7 hd7 hc8 hd8 hel hel' hbel
    go_wp2_with fail
    go_region_with (first
     | (go_at_call 51
        refine (eqEntry_one x0 x1 x2 x3 x4 x5 x6 x7 x8 _).mono ?_
        rintro e w1 ⟨rfl, b1⟩
        have BB := jd (HB.out.drew.trans (b1.mono (by show w.heap.size ≤ wr.heap.size; omega)))))
    all_goals
     go_wp2
     go_roundw
     case rel => exact ⟨j + 1, by omega, by go_num, BB.out⟩
     case measure => simp [intOf]; omega
  · go_wp2
    go_ret
    exact ⟨rfl, hbel⟩
theorem szEntryS_any (A : Option Addr) (n c : Nat) (l : List EntM) (B : Nat) (L : Int) (w : World) (h : Rd w B [entD l] [.slice A n c]) (_hB : B ≤ w.heap.size) (l0 : 0 ≤ L) (l1 : L ≤ 1048576) :
    Calls Tryz.prog 65 #[.slice A n c, .int .i64 L] w fun e w' => e = .returned (.int .i64 (left L (entSz l))) ∧ Below w.heap.size w w' := by
 obtain ⟨_, _, _, e, hl, h1, h2, _⟩ := h.ents
 injection e with e1 e2 e3
 subst e1 e2 e3
 have hm : n ≤ maxLen := Nat.le_trans h1 h2
 unfold maxLen at hm
 have e : entSz l = n := hl
 rw [e]
 clear h hl e
 by_cases h : (n : Int) ≤ L
 · rw [left, if_pos h]
   go_enter Tryz.func65, Tryz.ntmps65
   go_wp2
   go_ret
   exact ⟨rfl, Below.refl _ _⟩
 · rw [left, if_neg h]
   go_enter Tryz.func65, Tryz.ntmps65
   go_wp2
   go_ret
   exact ⟨rfl, Below.refl _ _⟩
set_option maxHeartbeats 6400000 in
theorem markEntryS_any (A : Option Addr) (n c : Nat) (l : List EntM) (fp : List Nat) (w : World) (o : Ow w [entD l] [.slice A n c] fp) (hnd : fp.Nodup) (hs : entSz l ≤ 1048577) (k : Int) (k0 : 0 ≤ k) (k1 : k ≤ 100000000000) :
    Calls Tryz.prog 15 #[.slice A n c, .int .i64 k] w fun e w' => ∃ l', e = .returned (.int .i64 (k + (entN l : Int))) ∧ Ow w' [entD l'] [.slice A n c] fp ∧ Touch fp w w' ∧ MarkedEntryS l' k ∧ entN l' = entN l ∧ entSz l' = entSz l := by
 suffices H : Calls Tryz.prog 15 #[.slice A n c, .int .i64 k] w fun e w' => ∃ l', e = .returned (.int .i64 (k + (nums entNs l l.length : Int))) ∧ Ow w' [entD l'] [.slice A n c] fp ∧ Touch fp w w' ∧ l'.map (fun r => (entNs r).length) = l.map (fun r => (entNs r).length) ∧ l'.flatMap entNs = upFrom k (nums entNs l l.length) by
  refine H.mono ?_
  rintro e w' ⟨l', rfl, o', t', h1, h2⟩
  have h3 := len_of_map h1
  refine ⟨l', rfl, o', t', ?_, ?_, entSz_map h1⟩
  · show l'.flatMap entNs = upFrom k (l'.flatMap entNs).length
    rw [h2, upFrom_length]
  · show nums entNs l' l'.length = nums entNs l l.length
    rw [h3]
    exact nums_map h1 _
 obtain ⟨A', n', c', e, hl, _, _⟩ := o.rd.ents
 injection e with e1 e2 e3
 subst e1 e2 e3
 have HL := jd hl
 have hn : n ≤ 1048577 := by unfold entSz at hs; omega
 have HS := jd hs
 have O := jd o
 have HN := jd hnd
 clear o hs hnd hl
 go_enter Tryz.func15, Tryz.ntmps15
 go_wp2
 go_loopw [1, 5] (fun q i wr => ∃ (j : Nat) (l' : List EntM), j ≤ n ∧ i = .int .i64 (j : Int) ∧ q = .int .i64 (k + (nums entNs l j : Int)) ∧ l'.map (fun r => (entNs r).length) = l.map (fun r => (entNs r).length) ∧ (l'.take j).flatMap entNs = upFrom k (nums entNs l j) ∧ Ow wr [entD l'] [.slice A n c] fp ∧ Touch fp w wr) (fun _ i _ => n - (intOf i).toNat)
 case atStart => exact ⟨0, l, Nat.zero_le _, rfl, by simp [nums, pre_zero], rfl, by simp [nums, pre_zero, upFrom], O.out, Touch.refl _ _⟩
 case round =>
  obtain ⟨j, l', hj, rfl, rfl, hmap, hflat, hown, htch⟩ := hrel
  have hll : l'.length = l.length := by simpa using congrArg List.length hmap
  by_cases hlt : j < n
  · have hjl : j < l'.length := by have := HL.out; omega
    have hjl2 : j < l.length := by have := HL.out; omega
    have hlen0 : (entNs l'[j]).length = (entNs l[j]).length := by
     have h1 := congrArg (fun q => q[j]?) hmap
     simp [List.getElem?_eq_getElem hjl, List.getElem?_eq_getElem hjl2] at h1
     exact h1
    obtain ⟨g, d, es, f2, e, _, _, he, hcell, hfr, hel, hn2, hg2, hgf, hsub, _, _⟩ := Ow.elem (k := 9) entC_len (by decide) hown HN.out (j := j) hjl
    injection e with e e2 e3
    subst e e3
    match es, he with
    | [y0, y1, y2, y3, y4, y5, y6, y7, y8], _ =>
    obtain ⟨ey0, ey1, ey2, ey3, ey4, ey5, ey6, ey7, ey8, ef2⟩ := Ow.ent hel
    subst ey0
    subst ey1
    subst ey2
    subst ey3
    subst ey4
    subst ey5
    subst ey6
    subst ey7
    subst ey8
    subst ef2
    have ck0 := hcell 0 (by decide)
    have ck1 := hcell 1 (by decide)
    have ck2 := hcell 2 (by decide)
    have ck3 := hcell 3 (by decide)
    have ck4 := hcell 4 (by decide)
    have ck5 := hcell 5 (by decide)
    have ck6 := hcell 6 (by decide)
    have ck7 := hcell 7 (by decide)
    have ck8 := hcell 8 (by decide)
    rw [Nat.add_zero] at ck0
    have cl0 : wr.cell? ⟨g, j * 9, none⟩ = some (.int .i64 l'[j].idx) := ck0
    have cl1 : wr.cell? ⟨g, j * 9 + 1, none⟩ = some (.int .i64 l'[j].tm) := ck1
    have cl2 : wr.cell? ⟨g, j * 9 + 2, none⟩ = some (.int .i64 l'[j].cl) := ck2
    have cl3 : wr.cell? ⟨g, j * 9 + 3, none⟩ = some (.int .i64 l'[j].sq) := ck3
    have cl4 : wr.cell? ⟨g, j * 9 + 4, none⟩ = some (.int .i64 l'[j].kd) := ck4
    have cl5 : wr.cell? ⟨g, j * 9 + 5, none⟩ = some (.int .i64 l'[j].oa) := ck5
    have cl6 : wr.cell? ⟨g, j * 9 + 6, none⟩ = some (.int .i64 l'[j].ob) := ck6
    have cl7 : wr.cell? ⟨g, j * 9 + 7, none⟩ = some (.int .i64 l'[j].oc) := ck7
    have cl8 : wr.cell? ⟨g, j * 9 + 8, none⟩ = some (.int .i64 l'[j].od) := ck8
    have fk0 := hfr (j * 9)
    have fk1 := hfr (j * 9 + 1)
    have fk2 := hfr (j * 9 + 2)
    have fk3 := hfr (j * 9 + 3)
    have fk4 := hfr (j * 9 + 4)
    have fk5 := hfr (j * 9 + 5)
    have fk6 := hfr (j * 9 + 6)
    have fk7 := hfr (j * 9 + 7)
    have fk8 := hfr (j * 9 + 8)
    have hlen : 9 = (entNs l[j]).length := rfl
    have hnj : nums entNs l (j + 1) = nums entNs l j + 9 := by rw [hlen]; exact pre_succ hjl2
    have hb1 : nums entNs l j + 9 ≤ 9437193 := by
     rw [hlen]
     have h1 : nums entNs l j + (entNs l[j]).length ≤ (l.map (fun r => (entNs r).length)).sum := pre_at (g := fun r => (entNs r).length) hjl2
     have h2 := HS.out
     unfold entSz at h2
     have h3 := entN_eq l
     omega
    generalize hN : nums entNs l j = N at *
    obtain ⟨x0, hx0⟩ : ∃ x, x = l'[j].idx := ⟨_, rfl⟩
    obtain ⟨x1, hx1⟩ : ∃ x, x = l'[j].tm := ⟨_, rfl⟩
    obtain ⟨x2, hx2⟩ : ∃ x, x = l'[j].cl := ⟨_, rfl⟩
    obtain ⟨x3, hx3⟩ : ∃ x, x = l'[j].sq := ⟨_, rfl⟩
    obtain ⟨x4, hx4⟩ : ∃ x, x = l'[j].kd := ⟨_, rfl⟩
    obtain ⟨x5, hx5⟩ : ∃ x, x = l'[j].oa := ⟨_, rfl⟩
    obtain ⟨x6, hx6⟩ : ∃ x, x = l'[j].ob := ⟨_, rfl⟩
    obtain ⟨x7, hx7⟩ : ∃ x, x = l'[j].oc := ⟨_, rfl⟩
    obtain ⟨x8, hx8⟩ : ∃ x, x = l'[j].od := ⟨_, rfl⟩
    rw [← hx0] at cl0
    rw [← hx1] at cl1
    rw [← hx2] at cl2
    rw [← hx3] at cl3
    rw [← hx4] at cl4
    rw [← hx5] at cl5
    rw [← hx6] at cl6
    rw [← hx7] at cl7
    rw [← hx8] at cl8
    have hlj : l'[j] = ⟨x0, x1, x2, x3, x4, x5, x6, x7, x8⟩ := by rw [hx0, hx1, hx2, hx3, hx4, hx5, hx6, hx7, hx8]
    obtain ⟨tg, hown2⟩ := Ow.storeFront (k := 9) entC_len (by decide) hown HN.out (j := j) hjl (x := ⟨k + (N : Int), k + (N : Int) + 1, k + (N : Int) + 1 + 1, k + (N : Int) + 1 + 1 + 1, k + (N : Int) + 1 + 1 + 1 + 1, k + (N : Int) + 1 + 1 + 1 + 1 + 1, k + (N : Int) + 1 + 1 + 1 + 1 + 1 + 1, k + (N : Int) + 1 + 1 + 1 + 1 + 1 + 1 + 1, k + (N : Int) + 1 + 1 + 1 + 1 + 1 + 1 + 1 + 1⟩) (xs := [x0, x1, x2, x3, x4, x5, x6, x7, x8]) (xs' := [k + (N : Int), k + (N : Int) + 1, k + (N : Int) + 1 + 1, k + (N : Int) + 1 + 1 + 1, k + (N : Int) + 1 + 1 + 1 + 1, k + (N : Int) + 1 + 1 + 1 + 1 + 1, k + (N : Int) + 1 + 1 + 1 + 1 + 1 + 1, k + (N : Int) + 1 + 1 + 1 + 1 + 1 + 1 + 1, k + (N : Int) + 1 + 1 + 1 + 1 + 1 + 1 + 1 + 1]) (rest := []) (by rw [hlj]; rfl) rfl rfl
    have t2 := htch.trans (tg.mono (fun p hp => by have : p = g := by simpa using hp
                                                   rw [this]; exact hgf))
    have R1 := jd hown2
    have R2 := jd t2
    have HJ := jd hnj
    have HM := jd hmap
    have HF := jd hflat
    have HE := jd hlen
    have HLL := jd hll
    have HNN := jd hN
    have HL0 := jd hlen0
    clear hmap hflat htch hsub hcell ck0 ck1 ck2 ck3 ck4 ck5 ck6 ck7 ck8 hel hown hown2 hfr hgf hlen hnj hN hll e2 tg t2 hlen0 hx0 hx1 hx2 hx3 hx4 hx5 hx6 hx7 hx8 hlj
    go_wp2
    go_roundw
    case rel =>
     refine ⟨j + 1, _, by omega, by go_num, by rw [HJ.out]; go_num, ?_, ?_, R1.out, R2.out⟩
     · rw [set_map hjl ?_]
       · exact HM.out
       · exact rfl
     · have h1 := nums_map HM.out j
       have h2 := flat_step (g := entNs) (l := l') (j := j) (k := k) (x := ⟨k + (N : Int), k + (N : Int) + 1, k + (N : Int) + 1 + 1, k + (N : Int) + 1 + 1 + 1, k + (N : Int) + 1 + 1 + 1 + 1, k + (N : Int) + 1 + 1 + 1 + 1 + 1, k + (N : Int) + 1 + 1 + 1 + 1 + 1 + 1, k + (N : Int) + 1 + 1 + 1 + 1 + 1 + 1 + 1, k + (N : Int) + 1 + 1 + 1 + 1 + 1 + 1 + 1 + 1⟩) hjl (by rw [h1, HNN.out]; exact HF.out) (by
        rw [h1, HNN.out]
        show [k + (N : Int), k + (N : Int) + 1, k + (N : Int) + 1 + 1, k + (N : Int) + 1 + 1 + 1, k + (N : Int) + 1 + 1 + 1 + 1, k + (N : Int) + 1 + 1 + 1 + 1 + 1, k + (N : Int) + 1 + 1 + 1 + 1 + 1 + 1, k + (N : Int) + 1 + 1 + 1 + 1 + 1 + 1 + 1, k + (N : Int) + 1 + 1 + 1 + 1 + 1 + 1 + 1 + 1] = upFrom (k + (N : Int)) 9
        simp only [upFrom_cons, upFrom_zero])
       rw [h2, h1, HNN.out, HJ.out]
       rfl
    case measure => simp [intOf]; omega
  · go_wp2
    go_ret
    have hjn : j = l.length := by have := HL.out; omega
    subst hjn
    refine ⟨l', rfl, hown, htch, hmap, ?_⟩
    rw [List.take_of_length_le (by omega)] at hflat
    exact hflat
set_option maxHeartbeats 3200000 in
theorem heldEntryS_any (A : Option Addr) (n c : Nat) (l : List EntM) (B : Nat) (w : World) (h : Rd w B [entD l] [.slice A n c]) (_hB : B ≤ w.heap.size) (hs : entSz l ≤ 1048577) (k : Int) (k0 : 0 ≤ k) (k1 : k ≤ 100000000000) (hm : MarkedEntryS l k) :
    Calls Tryz.prog 16 #[.slice A n c, .int .i64 k] w fun e w' => e = .returned (.int .i64 (k + (entN l : Int))) ∧ Below w.heap.size w w' := by
 obtain ⟨_, _, _, e, hl, _, _, hel⟩ := h.ents
 injection e with e1 e2 e3
 subst e1 e2 e3
 have HL := jd hl
 have hn : n ≤ 1048577 := by unfold entSz at hs; omega
 have HS := jd hs
 have HM := jd (show l.flatMap entNs = upFrom k (l.flatMap entNs).length from hm)
 clear hs hl hm h
 go_enter Tryz.func16, Tryz.ntmps16
 go_wp2
 go_loop [1, 5] (fun q i => ∃ j : Nat, j ≤ n ∧ i = .int .i64 (j : Int) ∧ q = .int .i64 (k + (nums entNs l j : Int))) (fun _ i => n - (intOf i).toNat)
 case atStart => exact ⟨0, Nat.zero_le _, rfl, by simp [nums, pre_zero]⟩
 case round =>
  obtain ⟨j, hj, rfl, rfl⟩ := hrel
  by_cases hlt : j < n
  · obtain ⟨b, off, rfl, hb, hc⟩ := hel (by omega)
    have hjl : j < l.length := by have := HL.out; omega
    obtain ⟨hcell0, hcell1, hcell2, hcell3, hcell4, hcell5, hcell6, hcell7, hcell8⟩ := hc j hjl
    have hat := flat_at HM.out hjl
    obtain ⟨N, hN⟩ : ∃ N, N = nums entNs l j := ⟨_, rfl⟩
    rw [← hN] at hat ⊢
    have hat2 : [l[j].idx, l[j].tm, l[j].cl, l[j].sq, l[j].kd, l[j].oa, l[j].ob, l[j].oc, l[j].od] = upFrom (k + (N : Int)) 9 := hat
    rw [upFrom_cons, upFrom_cons, upFrom_cons, upFrom_cons, upFrom_cons, upFrom_cons, upFrom_cons, upFrom_cons, upFrom_cons, upFrom_zero] at hat2
    injection hat2 with ha0 ih0
    injection ih0 with ha1 ih1
    injection ih1 with ha2 ih2
    injection ih2 with ha3 ih3
    injection ih3 with ha4 ih4
    injection ih4 with ha5 ih5
    injection ih5 with ha6 ih6
    injection ih6 with ha7 ih7
    injection ih7 with ha8 ih8
    rw [ha0] at hcell0
    rw [ha1] at hcell1
    rw [ha2] at hcell2
    rw [ha3] at hcell3
    rw [ha4] at hcell4
    rw [ha5] at hcell5
    rw [ha6] at hcell6
    rw [ha7] at hcell7
    rw [ha8] at hcell8
    have hnj : nums entNs l (j + 1) = N + 9 := by rw [hN]; exact pre_succ hjl
    have hb1 : N + 9 ≤ 9437193 := by
     rw [hN]
     have h1 : nums entNs l j + (entNs l[j]).length ≤ (l.map (fun r => (entNs r).length)).sum := pre_at (g := fun r => (entNs r).length) hjl
     have h2 := HS.out
     unfold entSz at h2
     have h3 := entN_eq l
     have h4 : (entNs l[j]).length = 9 := rfl
     omega
    have HJ := jd hnj
    clear hc hat ha0 ha1 ha2 ha3 ha4 ha5 ha6 ha7 ha8 hnj hel hN ih8
    go_wp2
    go_round
    case rel => exact ⟨j + 1, by omega, by go_num, by rw [HJ.out]; go_num⟩
    case measure => simp [intOf]; omega
  · go_wp2
    go_ret
    have hjn : j = l.length := by have := HL.out; omega
    subst hjn
    exact ⟨rfl, Below.refl _ _⟩
theorem entN_b (l : List EntM) (h : entSz l ≤ 1048577) : entN l ≤ 9437193 := by
 have := entN_le l
 omega
end Go.Proofs.YthjjdelpdiipdaaGreatDoor

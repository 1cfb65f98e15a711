/- Parts of my texts: Ent Book. -/
import Derived.Test.YtmjifhjhialcbaaGreatK1
import Derived.RegionTactic
namespace Go.Proofs.YtmjifhjhialcbaaGreat
set_option maxRecDepth 100000
set_option linter.unusedVariables false
open Go.RowKit
structure OpM where
 kind : Int
 a : Int
 b : Int
 c : Int
 d : Int
set_option maxHeartbeats 1600000 in
theorem eqOp_one (x0 x1 x2 x3 x4 : Int) (w : World) :
    Calls Tryz.prog 197 #[.agg #[.int .i64 x0, .int .i64 x1, .int .i64 x2, .int .i64 x3, .int .i64 x4], .agg #[.int .i64 x0, .int .i64 x1, .int .i64 x2, .int .i64 x3, .int .i64 x4]] w fun e w' => e = .returned (.bool true) ∧ Below w.heap.size w w' := by
 have b0 : Below w.heap.size w ((w.alloc (.cells #[.int .i64 x0, .int .i64 x1, .int .i64 x2, .int .i64 x3, .int .i64 x4] 85)).alloc (.cells #[.int .i64 x0, .int .i64 x1, .int .i64 x2, .int .i64 x3, .int .i64 x4] 85)) :=
  ((Below.refl _ w).alloc (Nat.le_refl _) _).alloc (by simp) _
 have B0 := jd b0
 clear b0
 go_enter Tryz.func197, Tryz.ntmps197
 go_wp2
 go_ret
 exact ⟨rfl, B0.out⟩
structure EntM where
 idx : Int
 tm : Int
 cl : Int
 sq : Int
 kd : Int
 oa : Int
 ob : Int
 oc : Int
 od : Int
def entC (x : EntM) : List Dat := [.int x.idx, .int x.tm, .int x.cl, .int x.sq, .int x.kd, .int x.oa, .int x.ob, .int x.oc, .int x.od]
theorem entC_len (x : EntM) : (entC x).length = 9 := rfl
def entD (l : List EntM) : Dat := lst 87 9 entC l
def entSz (l : List EntM) : Nat := l.length
def entNs (x : EntM) : List Int := x.idx :: x.tm :: x.cl :: x.sq :: x.kd :: x.oa :: x.ob :: x.oc :: x.od :: []
def entN (l : List EntM) : Nat := nums entNs l l.length
def MarkedEntryS (l : List EntM) (k : Int) : Prop := l.flatMap entNs = upFrom k (l.flatMap entNs).length
def MadeEntryS (w : World) (l : List EntM) (e : Ending) (w' : World) : Prop :=
 ∃ A n c, e = .returned (.slice A n c) ∧ Has w' w.heap.size [entD l] [.slice A n c] ∧ Below w.heap.size w w'
theorem infoEntry : (Tryz.prog.info? 87).map (fun i => (i.zero, i.size, i.bytes)) = some (some (.agg #[.int .i64 0, .int .i64 0, .int .i64 0, .int .i64 0, .int .i64 0, .int .i64 0, .int .i64 0, .int .i64 0, .int .i64 0]), 9, 72) := by kernel_rfl
theorem Rd.ents {w : World} {B : Nat} {v0 : Value} {l : List EntM} (h : Rd w B [entD l] [v0]) : ∃ A n c, v0 = .slice A n c ∧ l.length = n ∧ n ≤ c ∧ c ≤ maxLen ∧
    (0 < n → ∃ b off, A = some ⟨b, off, none⟩ ∧ b < B ∧ ∀ j (hj : j < l.length), w.cell? ⟨b, off + j * 9, none⟩ = some (.int .i64 l[j].idx) ∧ w.cell? ⟨b, off + j * 9 + 1, none⟩ = some (.int .i64 l[j].tm) ∧ w.cell? ⟨b, off + j * 9 + 2, none⟩ = some (.int .i64 l[j].cl) ∧ w.cell? ⟨b, off + j * 9 + 3, none⟩ = some (.int .i64 l[j].sq) ∧ w.cell? ⟨b, off + j * 9 + 4, none⟩ = some (.int .i64 l[j].kd) ∧ w.cell? ⟨b, off + j * 9 + 5, none⟩ = some (.int .i64 l[j].oa) ∧ w.cell? ⟨b, off + j * 9 + 6, none⟩ = some (.int .i64 l[j].ob) ∧ w.cell? ⟨b, off + j * 9 + 7, none⟩ = some (.int .i64 l[j].oc) ∧ w.cell? ⟨b, off + j * 9 + 8, none⟩ = some (.int .i64 l[j].od)) := by
 obtain ⟨A, n, c, rfl, hl, h1, h2, h3⟩ := Rd.lst (k := 9) entC_len (by decide) h
 refine ⟨A, n, c, rfl, hl, h1, h2, fun hn => ?_⟩
 obtain ⟨b, off, rfl, hb, hc⟩ := h3 hn
 refine ⟨b, off, rfl, hb, fun j hj => ?_⟩
 obtain ⟨es, he, hr, hcell⟩ := hc j hj
 match es, he with
 | [u0, u1, u2, u3, u4, u5, u6, u7, u8], _ =>
  have h0' := hcell 0 (by omega)
  have h1' := hcell 1 (by omega)
  have h2' := hcell 2 (by omega)
  have h3' := hcell 3 (by omega)
  have h4' := hcell 4 (by omega)
  have h5' := hcell 5 (by omega)
  have h6' := hcell 6 (by omega)
  have h7' := hcell 7 (by omega)
  have h8' := hcell 8 (by omega)
  simp only [Nat.add_zero] at h0'
  have g0 : Rd w B (entC l[j]) [u0, u1, u2, u3, u4, u5, u6, u7, u8] := hr
  obtain ⟨e0, g1⟩ := Rd.int_cons g0
  obtain ⟨e1, g2⟩ := Rd.int_cons g1
  obtain ⟨e2, g3⟩ := Rd.int_cons g2
  obtain ⟨e3, g4⟩ := Rd.int_cons g3
  obtain ⟨e4, g5⟩ := Rd.int_cons g4
  obtain ⟨e5, g6⟩ := Rd.int_cons g5
  obtain ⟨e6, g7⟩ := Rd.int_cons g6
  obtain ⟨e7, g8⟩ := Rd.int_cons g7
  obtain ⟨e8, g9⟩ := Rd.int_cons g8
  subst e0
  subst e1
  subst e2
  subst e3
  subst e4
  subst e5
  subst e6
  subst e7
  subst e8
  exact ⟨h0', h1', h2', h3', h4', h5', h6', h7', h8'⟩
theorem Ow.ent {w : World} {x : EntM} {y0 y1 y2 y3 y4 y5 y6 y7 y8 : Value} {f2 : List Nat} (h : Ow w (entC x) [y0, y1, y2, y3, y4, y5, y6, y7, y8] f2) : y0 = .int .i64 x.idx ∧ y1 = .int .i64 x.tm ∧ y2 = .int .i64 x.cl ∧ y3 = .int .i64 x.sq ∧ y4 = .int .i64 x.kd ∧ y5 = .int .i64 x.oa ∧ y6 = .int .i64 x.ob ∧ y7 = .int .i64 x.oc ∧ y8 = .int .i64 x.od ∧ f2 = [] := by
 have g0 : Ow w (entC x) [y0, y1, y2, y3, y4, y5, y6, y7, y8] f2 := h
 obtain ⟨e0, g1⟩ := Ow.int_cons g0
 obtain ⟨e1, g2⟩ := Ow.int_cons g1
 obtain ⟨e2, g3⟩ := Ow.int_cons g2
 obtain ⟨e3, g4⟩ := Ow.int_cons g3
 obtain ⟨e4, g5⟩ := Ow.int_cons g4
 obtain ⟨e5, g6⟩ := Ow.int_cons g5
 obtain ⟨e6, g7⟩ := Ow.int_cons g6
 obtain ⟨e7, g8⟩ := Ow.int_cons g7
 obtain ⟨e8, g9⟩ := Ow.int_cons g8
 exact ⟨e0, e1, e2, e3, e4, e5, e6, e7, e8, Ow.nil_foot g9⟩
theorem entN_eq (l : List EntM) : (l.map (fun r => (entNs r).length)).sum = 9 * l.length := by
 induction l with
 | nil => rfl
 | cons x l ih =>
  rw [List.map_cons, List.sum_cons, ih, List.length_cons]
  have h1 : (entNs x).length = 9 := rfl
  omega
theorem entN_le (l : List EntM) : entN l ≤ 9 * entSz l := by
 unfold entN nums
 rw [pre_all, entN_eq]
 unfold entSz
 omega
theorem entSz_map {l l' : List EntM} (h : l'.map (fun r => (entNs r).length) = l.map (fun r => (entNs r).length)) : entSz l' = entSz l := by
 have h1 := len_of_map h
 exact h1
set_option maxHeartbeats 1600000 in
theorem eqEntry_one (x0 x1 x2 x3 x4 x5 x6 x7 x8 : Int) (w : World) :
    Calls Tryz.prog 150 #[.agg #[.int .i64 x0, .int .i64 x1, .int .i64 x2, .int .i64 x3, .int .i64 x4, .int .i64 x5, .int .i64 x6, .int .i64 x7, .int .i64 x8], .agg #[.int .i64 x0, .int .i64 x1, .int .i64 x2, .int .i64 x3, .int .i64 x4, .int .i64 x5, .int .i64 x6, .int .i64 x7, .int .i64 x8]] w fun e w' => e = .returned (.bool true) ∧ Below w.heap.size w w' := by
 have b0 : Below w.heap.size w ((w.alloc (.cells #[.int .i64 x0, .int .i64 x1, .int .i64 x2, .int .i64 x3, .int .i64 x4, .int .i64 x5, .int .i64 x6, .int .i64 x7, .int .i64 x8] 87)).alloc (.cells #[.int .i64 x0, .int .i64 x1, .int .i64 x2, .int .i64 x3, .int .i64 x4, .int .i64 x5, .int .i64 x6, .int .i64 x7, .int .i64 x8] 87)) :=
  ((Below.refl _ w).alloc (Nat.le_refl _) _).alloc (by simp) _
 have B0 := jd b0
 clear b0
 go_enter Tryz.func150, Tryz.ntmps150
 go_wp2_with (first | (go_at_call 197; refine (eqOp_one x4 x5 x6 x7 x8 _).mono ?_; rintro e w1 ⟨rfl, b1⟩))
 have B1 := jd (B0.out.trans (b1.mono B0.out.size))
 go_ret
 exact ⟨rfl, B1.out⟩
set_option maxHeartbeats 3200000 in
theorem eqEntryS_yes (A A' : Option Addr) (n n' c c' B B' : Nat) (l : List EntM) (w : World) (h : Rd w B [entD l] [.slice A n c]) (h' : Rd w B' [entD l] [.slice A' n' c']) (hB : B ≤ w.heap.size) (hB' : B' ≤ w.heap.size) (hs : entSz l ≤ 1048577) :
    Calls Tryz.prog 90 #[.slice A n c, .slice A' n' c'] w fun e w' => e = .returned (.bool true) ∧ Below w.heap.size w w' := by
 obtain ⟨_, _, _, e, hl, _, _, hel⟩ := h.ents
 injection e with e1 e2 e3
 subst e1 e2 e3
 obtain ⟨_, _, _, e, hl', _, _, hel'⟩ := h'.ents
 injection e with e1 e2 e3
 subst e1 e2 e3
 obtain rfl : n = n' := by rw [← hl, hl']
 have hn : n ≤ 1048577 := by unfold entSz at hs; omega
 have HS := jd hs
 have HL := jd hl
 clear hl hl' hs h h'
 go_enter Tryz.func90, Tryz.ntmps90
 go_wp2
 go_loopw [5] (fun i wr => ∃ j : Nat, j ≤ n ∧ i = .int .i64 (j : Int) ∧ Below w.heap.size w wr) (fun i _ => n - (intOf i).toNat)
 case atStart => exact ⟨0, Nat.zero_le _, rfl, Below.refl _ _⟩
 case round =>
  obtain ⟨j, hj, rfl, hbel⟩ := hrel
  by_cases hlt : j < n
  · obtain ⟨b, off, rfl, hb, hc⟩ := hel (by omega)
    obtain ⟨b', off', rfl, hb', hc'⟩ := hel' (by omega)
    have hjl : j < l.length := by have := HL.out; omega
    obtain ⟨hc0, hc1, hc2, hc3, hc4, hc5, hc6, hc7, hc8⟩ := hc j hjl
    obtain ⟨hd0, hd1, hd2, hd3, hd4, hd5, hd6, hd7, hd8⟩ := hc' j hjl
    have cs0 := (hbel.cell (p := ⟨b, off + j * 9, none⟩) (show b < _ by omega)).trans hc0
    have cs1 := (hbel.cell (p := ⟨b, off + j * 9 + 1, none⟩) (show b < _ by omega)).trans hc1
    have cs2 := (hbel.cell (p := ⟨b, off + j * 9 + 2, none⟩) (show b < _ by omega)).trans hc2
    have cs3 := (hbel.cell (p := ⟨b, off + j * 9 + 3, none⟩) (show b < _ by omega)).trans hc3
    have cs4 := (hbel.cell (p := ⟨b, off + j * 9 + 4, none⟩) (show b < _ by omega)).trans hc4
    have cs5 := (hbel.cell (p := ⟨b, off + j * 9 + 5, none⟩) (show b < _ by omega)).trans hc5
    have cs6 := (hbel.cell (p := ⟨b, off + j * 9 + 6, none⟩) (show b < _ by omega)).trans hc6
    have cs7 := (hbel.cell (p := ⟨b, off + j * 9 + 7, none⟩) (show b < _ by omega)).trans hc7
    have cs8 := (hbel.cell (p := ⟨b, off + j * 9 + 8, none⟩) (show b < _ by omega)).trans hc8
    have ct0 := (hbel.cell (p := ⟨b', off' + j * 9, none⟩) (show b' < _ by omega)).trans hd0
    have ct1 := (hbel.cell (p := ⟨b', off' + j * 9 + 1, none⟩) (show b' < _ by omega)).trans hd1
    have ct2 := (hbel.cell (p := ⟨b', off' + j * 9 + 2, none⟩) (show b' < _ by omega)).trans hd2
    have ct3 := (hbel.cell (p := ⟨b', off' + j * 9 + 3, none⟩) (show b' < _ by omega)).trans hd3
    have ct4 := (hbel.cell (p := ⟨b', off' + j * 9 + 4, none⟩) (show b' < _ by omega)).trans hd4
    have ct5 := (hbel.cell (p := ⟨b', off' + j * 9 + 5, none⟩) (show b' < _ by omega)).trans hd5
    have ct6 := (hbel.cell (p := ⟨b', off' + j * 9 + 6, none⟩) (show b' < _ by omega)).trans hd6
    have ct7 := (hbel.cell (p := ⟨b', off' + j * 9 + 7, none⟩) (show b' < _ by omega)).trans hd7
    have ct8 := (hbel.cell (p := ⟨b', off' + j * 9 + 8, none⟩) (show b' < _ by omega)).trans hd8
    generalize l[j].idx = x0 at *
    generalize l[j].tm = x1 at *
    generalize l[j].cl = x2 at *
    generalize l[j].sq = x3 at *
    generalize l[j].kd = x4 at *
    generalize l[j].oa = x5 at *
    generalize l[j].ob = x6 at *
    generalize l[j].oc = x7 at *
    generalize l[j].od = x8 at *
    have i0 : (0 : Int) ≤ (j : Int) := by omega
    have i1 : (j : Int) < (n : Int) := by omega
    have z := hbel.size
    have HB := jd hbel
    clear hc hc' hc0 hd0 hc1 hd1 hc2 hd2 hc3 hd3 hc4 hd4 hc5 hd5 hc6 hd6 hc7 hd7 hc8 hd8 hel hel' hbel
    go_wp2_with fail
    go_region_with (first
     | (go_at_call 150
        refine (eqEntry_one x0 x1 x2 x3 x4 x5 x6 x7 x8 _).mono ?_
        rintro e w1 ⟨rfl, b1⟩
        have BB := jd (HB.out.drew.trans (b1.mono (by show w.heap.size ≤ wr.heap.size; omega)))))
    all_goals
     go_wp2
     go_roundw
     case rel => exact ⟨j + 1, by omega, by go_num, BB.out⟩
     case measure => simp [intOf]; omega
  · go_wp2
    go_ret
    exact ⟨rfl, hbel⟩
set_option maxHeartbeats 6400000 in
theorem markEntryS_any (A : Option Addr) (n c : Nat) (l : List EntM) (fp : List Nat) (w : World) (o : Ow w [entD l] [.slice A n c] fp) (hnd : fp.Nodup) (hs : entSz l ≤ 1048577) (k : Int) (k0 : 0 ≤ k) (k1 : k ≤ 100000000000) :
    Calls Tryz.prog 95 #[.slice A n c, .int .i64 k] w fun e w' => ∃ l', e = .returned (.int .i64 (k + (entN l : Int))) ∧ Ow w' [entD l'] [.slice A n c] fp ∧ Touch fp w w' ∧ MarkedEntryS l' k ∧ entN l' = entN l ∧ entSz l' = entSz l := by
 suffices H : Calls Tryz.prog 95 #[.slice A n c, .int .i64 k] w fun e w' => ∃ l', e = .returned (.int .i64 (k + (nums entNs l l.length : Int))) ∧ Ow w' [entD l'] [.slice A n c] fp ∧ Touch fp w w' ∧ l'.map (fun r => (entNs r).length) = l.map (fun r => (entNs r).length) ∧ l'.flatMap entNs = upFrom k (nums entNs l l.length) by
  refine H.mono ?_
  rintro e w' ⟨l', rfl, o', t', h1, h2⟩
  have h3 := len_of_map h1
  refine ⟨l', rfl, o', t', ?_, ?_, entSz_map h1⟩
  · show l'.flatMap entNs = upFrom k (l'.flatMap entNs).length
    rw [h2, upFrom_length]
  · show nums entNs l' l'.length = nums entNs l l.length
    rw [h3]
    exact nums_map h1 _
 obtain ⟨A', n', c', e, hl, _, _⟩ := o.rd.ents
 injection e with e1 e2 e3
 subst e1 e2 e3
 have HL := jd hl
 have hn : n ≤ 1048577 := by unfold entSz at hs; omega
 have HS := jd hs
 have O := jd o
 have HN := jd hnd
 clear o hs hnd hl
 go_enter Tryz.func95, Tryz.ntmps95
 go_wp2
 go_loopw [1, 5] (fun q i wr => ∃ (j : Nat) (l' : List EntM), j ≤ n ∧ i = .int .i64 (j : Int) ∧ q = .int .i64 (k + (nums entNs l j : Int)) ∧ l'.map (fun r => (entNs r).length) = l.map (fun r => (entNs r).length) ∧ (l'.take j).flatMap entNs = upFrom k (nums entNs l j) ∧ Ow wr [entD l'] [.slice A n c] fp ∧ Touch fp w wr) (fun _ i _ => n - (intOf i).toNat)
 case atStart => exact ⟨0, l, Nat.zero_le _, rfl, by simp [nums, pre_zero], rfl, by simp [nums, pre_zero, upFrom], O.out, Touch.refl _ _⟩
 case round =>
  obtain ⟨j, l', hj, rfl, rfl, hmap, hflat, hown, htch⟩ := hrel
  have hll : l'.length = l.length := by simpa using congrArg List.length hmap
  by_cases hlt : j < n
  · have hjl : j < l'.length := by have := HL.out; omega
    have hjl2 : j < l.length := by have := HL.out; omega
    have hlen0 : (entNs l'[j]).length = (entNs l[j]).length := by
     have h1 := congrArg (fun q => q[j]?) hmap
     simp [List.getElem?_eq_getElem hjl, List.getElem?_eq_getElem hjl2] at h1
     exact h1
    obtain ⟨g, d, es, f2, e, _, _, he, hcell, hfr, hel, hn2, hg2, hgf, hsub, _, _⟩ := Ow.elem (k := 9) entC_len (by decide) hown HN.out (j := j) hjl
    injection e with e e2 e3
    subst e e3
    match es, he with
    | [y0, y1, y2, y3, y4, y5, y6, y7, y8], _ =>
    obtain ⟨ey0, ey1, ey2, ey3, ey4, ey5, ey6, ey7, ey8, ef2⟩ := Ow.ent hel
    subst ey0
    subst ey1
    subst ey2
    subst ey3
    subst ey4
    subst ey5
    subst ey6
    subst ey7
    subst ey8
    subst ef2
    have ck0 := hcell 0 (by decide)
    have ck1 := hcell 1 (by decide)
    have ck2 := hcell 2 (by decide)
    have ck3 := hcell 3 (by decide)
    have ck4 := hcell 4 (by decide)
    have ck5 := hcell 5 (by decide)
    have ck6 := hcell 6 (by decide)
    have ck7 := hcell 7 (by decide)
    have ck8 := hcell 8 (by decide)
    rw [Nat.add_zero] at ck0
    have cl0 : wr.cell? ⟨g, j * 9, none⟩ = some (.int .i64 l'[j].idx) := ck0
    have cl1 : wr.cell? ⟨g, j * 9 + 1, none⟩ = some (.int .i64 l'[j].tm) := ck1
    have cl2 : wr.cell? ⟨g, j * 9 + 2, none⟩ = some (.int .i64 l'[j].cl) := ck2
    have cl3 : wr.cell? ⟨g, j * 9 + 3, none⟩ = some (.int .i64 l'[j].sq) := ck3
    have cl4 : wr.cell? ⟨g, j * 9 + 4, none⟩ = some (.int .i64 l'[j].kd) := ck4
    have cl5 : wr.cell? ⟨g, j * 9 + 5, none⟩ = some (.int .i64 l'[j].oa) := ck5
    have cl6 : wr.cell? ⟨g, j * 9 + 6, none⟩ = some (.int .i64 l'[j].ob) := ck6
    have cl7 : wr.cell? ⟨g, j * 9 + 7, none⟩ = some (.int .i64 l'[j].oc) := ck7
    have cl8 : wr.cell? ⟨g, j * 9 + 8, none⟩ = some (.int .i64 l'[j].od) := ck8
    have fk0 := hfr (j * 9)
    have fk1 := hfr (j * 9 + 1)
    have fk2 := hfr (j * 9 + 2)
    have fk3 := hfr (j * 9 + 3)
    have fk4 := hfr (j * 9 + 4)
    have fk5 := hfr (j * 9 + 5)
    have fk6 := hfr (j * 9 + 6)
    have fk7 := hfr (j * 9 + 7)
    have fk8 := hfr (j * 9 + 8)
    have hlen : 9 = (entNs l[j]).length := rfl
    have hnj : nums entNs l (j + 1) = nums entNs l j + 9 := by rw [hlen]; exact pre_succ hjl2
    have hb1 : nums entNs l j + 9 ≤ 9437193 := by
     rw [hlen]
     have h1 : nums entNs l j + (entNs l[j]).length ≤ (l.map (fun r => (entNs r).length)).sum := pre_at (g := fun r => (entNs r).length) hjl2
     have h2 := HS.out
     unfold entSz at h2
     have h3 := entN_eq l
     omega
    generalize hN : nums entNs l j = N at *
    obtain ⟨x0, hx0⟩ : ∃ x, x = l'[j].idx := ⟨_, rfl⟩
    obtain ⟨x1, hx1⟩ : ∃ x, x = l'[j].tm := ⟨_, rfl⟩
    obtain ⟨x2, hx2⟩ : ∃ x, x = l'[j].cl := ⟨_, rfl⟩
    obtain ⟨x3, hx3⟩ : ∃ x, x = l'[j].sq := ⟨_, rfl⟩
    obtain ⟨x4, hx4⟩ : ∃ x, x = l'[j].kd := ⟨_, rfl⟩
    obtain ⟨x5, hx5⟩ : ∃ x, x = l'[j].oa := ⟨_, rfl⟩
    obtain ⟨x6, hx6⟩ : ∃ x, x = l'[j].ob := ⟨_, rfl⟩
    obtain ⟨x7, hx7⟩ : ∃ x, x = l'[j].oc := ⟨_, rfl⟩
    obtain ⟨x8, hx8⟩ : ∃ x, x = l'[j].od := ⟨_, rfl⟩
    rw [← hx0] at cl0
    rw [← hx1] at cl1
    rw [← hx2] at cl2
    rw [← hx3] at cl3
    rw [← hx4] at cl4
    rw [← hx5] at cl5
    rw [← hx6] at cl6
    rw [← hx7] at cl7
    rw [← hx8] at cl8
    have hlj : l'[j] = ⟨x0, x1, x2, x3, x4, x5, x6, x7, x8⟩ := by rw [hx0, hx1, hx2, hx3, hx4, hx5, hx6, hx7, hx8]
    obtain ⟨tg, hown2⟩ := Ow.storeFront (k := 9) entC_len (by decide) hown HN.out (j := j) hjl (x := ⟨k + (N : Int), k + (N : Int) + 1, k + (N : Int) + 1 + 1, k + (N : Int) + 1 + 1 + 1, k + (N : Int) + 1 + 1 + 1 + 1, k + (N : Int) + 1 + 1 + 1 + 1 + 1, k + (N : Int) + 1 + 1 + 1 + 1 + 1 + 1, k + (N : Int) + 1 + 1 + 1 + 1 + 1 + 1 + 1, k + (N : Int) + 1 + 1 + 1 + 1 + 1 + 1 + 1 + 1⟩) (xs := [x0, x1, x2, x3, x4, x5, x6, x7, x8]) (xs' := [k + (N : Int), k + (N : Int) + 1, k + (N : Int) + 1 + 1, k + (N : Int) + 1 + 1 + 1, k + (N : Int) + 1 + 1 + 1 + 1, k + (N : Int) + 1 + 1 + 1 + 1 + 1, k + (N : Int) + 1 + 1 + 1 + 1 + 1 + 1, k + (N : Int) + 1 + 1 + 1 + 1 + 1 + 1 + 1, k + (N : Int) + 1 + 1 + 1 + 1 + 1 + 1 + 1 + 1]) (rest := []) (by rw [hlj]; rfl) rfl rfl
    have t2 := htch.trans (tg.mono (fun p hp => by have : p = g := by simpa using hp
                                                   rw [this]; exact hgf))
    have R1 := jd hown2
    have R2 := jd t2
    have HJ := jd hnj
    have HM := jd hmap
    have HF := jd hflat
    have HE := jd hlen
    have HLL := jd hll
    have HNN := jd hN
    have HL0 := jd hlen0
    clear hmap hflat htch hsub hcell ck0 ck1 ck2 ck3 ck4 ck5 ck6 ck7 ck8 hel hown hown2 hfr hgf hlen hnj hN hll e2 tg t2 hlen0 hx0 hx1 hx2 hx3 hx4 hx5 hx6 hx7 hx8 hlj
    go_wp2
    go_roundw
    case rel =>
     refine ⟨j + 1, _, by omega, by go_num, by rw [HJ.out]; go_num, ?_, ?_, R1.out, R2.out⟩
     · rw [set_map hjl ?_]
       · exact HM.out
       · exact rfl
     · have h1 := nums_map HM.out j
       have h2 := flat_step (g := entNs) (l := l') (j := j) (k := k) (x := ⟨k + (N : Int), k + (N : Int) + 1, k + (N : Int) + 1 + 1, k + (N : Int) + 1 + 1 + 1, k + (N : Int) + 1 + 1 + 1 + 1, k + (N : Int) + 1 + 1 + 1 + 1 + 1, k + (N : Int) + 1 + 1 + 1 + 1 + 1 + 1, k + (N : Int) + 1 + 1 + 1 + 1 + 1 + 1 + 1, k + (N : Int) + 1 + 1 + 1 + 1 + 1 + 1 + 1 + 1⟩) hjl (by rw [h1, HNN.out]; exact HF.out) (by
        rw [h1, HNN.out]
        show [k + (N : Int), k + (N : Int) + 1, k + (N : Int) + 1 + 1, k + (N : Int) + 1 + 1 + 1, k + (N : Int) + 1 + 1 + 1 + 1, k + (N : Int) + 1 + 1 + 1 + 1 + 1, k + (N : Int) + 1 + 1 + 1 + 1 + 1 + 1, k + (N : Int) + 1 + 1 + 1 + 1 + 1 + 1 + 1, k + (N : Int) + 1 + 1 + 1 + 1 + 1 + 1 + 1 + 1] = upFrom (k + (N : Int)) 9
        simp only [upFrom_cons, upFrom_zero])
       rw [h2, h1, HNN.out, HJ.out]
       rfl
    case measure => simp [intOf]; omega
  · go_wp2
    go_ret
    have hjn : j = l.length := by have := HL.out; omega
    subst hjn
    refine ⟨l', rfl, hown, htch, hmap, ?_⟩
    rw [List.take_of_length_le (by omega)] at hflat
    exact hflat
set_option maxHeartbeats 3200000 in
theorem heldEntryS_any (A : Option Addr) (n c : Nat) (l : List EntM) (B : Nat) (w : World) (h : Rd w B [entD l] [.slice A n c]) (_hB : B ≤ w.heap.size) (hs : entSz l ≤ 1048577) (k : Int) (k0 : 0 ≤ k) (k1 : k ≤ 100000000000) (hm : MarkedEntryS l k) :
    Calls Tryz.prog 96 #[.slice A n c, .int .i64 k] w fun e w' => e = .returned (.int .i64 (k + (entN l : Int))) ∧ Below w.heap.size w w' := by
 obtain ⟨_, _, _, e, hl, _, _, hel⟩ := h.ents
 injection e with e1 e2 e3
 subst e1 e2 e3
 have HL := jd hl
 have hn : n ≤ 1048577 := by unfold entSz at hs; omega
 have HS := jd hs
 have HM := jd (show l.flatMap entNs = upFrom k (l.flatMap entNs).length from hm)
 clear hs hl hm h
 go_enter Tryz.func96, Tryz.ntmps96
 go_wp2
 go_loop [1, 5] (fun q i => ∃ j : Nat, j ≤ n ∧ i = .int .i64 (j : Int) ∧ q = .int .i64 (k + (nums entNs l j : Int))) (fun _ i => n - (intOf i).toNat)
 case atStart => exact ⟨0, Nat.zero_le _, rfl, by simp [nums, pre_zero]⟩
 case round =>
  obtain ⟨j, hj, rfl, rfl⟩ := hrel
  by_cases hlt : j < n
  · obtain ⟨b, off, rfl, hb, hc⟩ := hel (by omega)
    have hjl : j < l.length := by have := HL.out; omega
    obtain ⟨hcell0, hcell1, hcell2, hcell3, hcell4, hcell5, hcell6, hcell7, hcell8⟩ := hc j hjl
    have hat := flat_at HM.out hjl
    obtain ⟨N, hN⟩ : ∃ N, N = nums entNs l j := ⟨_, rfl⟩
    rw [← hN] at hat ⊢
    have hat2 : [l[j].idx, l[j].tm, l[j].cl, l[j].sq, l[j].kd, l[j].oa, l[j].ob, l[j].oc, l[j].od] = upFrom (k + (N : Int)) 9 := hat
    rw [upFrom_cons, upFrom_cons, upFrom_cons, upFrom_cons, upFrom_cons, upFrom_cons, upFrom_cons, upFrom_cons, upFrom_cons, upFrom_zero] at hat2
    injection hat2 with ha0 ih0
    injection ih0 with ha1 ih1
    injection ih1 with ha2 ih2
    injection ih2 with ha3 ih3
    injection ih3 with ha4 ih4
    injection ih4 with ha5 ih5
    injection ih5 with ha6 ih6
    injection ih6 with ha7 ih7
    injection ih7 with ha8 ih8
    rw [ha0] at hcell0
    rw [ha1] at hcell1
    rw [ha2] at hcell2
    rw [ha3] at hcell3
    rw [ha4] at hcell4
    rw [ha5] at hcell5
    rw [ha6] at hcell6
    rw [ha7] at hcell7
    rw [ha8] at hcell8
    have hnj : nums entNs l (j + 1) = N + 9 := by rw [hN]; exact pre_succ hjl
    have hb1 : N + 9 ≤ 9437193 := by
     rw [hN]
     have h1 : nums entNs l j + (entNs l[j]).length ≤ (l.map (fun r => (entNs r).length)).sum := pre_at (g := fun r => (entNs r).length) hjl
     have h2 := HS.out
     unfold entSz at h2
     have h3 := entN_eq l
     have h4 : (entNs l[j]).length = 9 := rfl
     omega
    have HJ := jd hnj
    clear hc hat ha0 ha1 ha2 ha3 ha4 ha5 ha6 ha7 ha8 hnj hel hN ih8
    go_wp2
    go_round
    case rel => exact ⟨j + 1, by omega, by go_num, by rw [HJ.out]; go_num⟩
    case measure => simp [intOf]; omega
  · go_wp2
    go_ret
    have hjn : j = l.length := by have := HL.out; omega
    subst hjn
    exact ⟨rfl, Below.refl _ _⟩
structure BookM where
 base : Int
 tm : Int
 ents : List EntM
def BookM.cells (t : BookM) : List Dat := [.int t.base] ++ ([.int t.tm] ++ ([entD t.ents]))
def BookM.sz (t : BookM) : Nat := entSz t.ents
def BookM.n (t : BookM) : Nat := entN t.ents
def MarkedBook (t : BookM) (k : Int) : Prop := MarkedEntryS t.ents (k)
theorem Rd.bookT {w : World} {B : Nat} {t : BookM} {v0 v1 v2 : Value} (h : Rd w B t.cells [v0, v1, v2]) : ∃ (A2 : Option Addr) (n2 c2 : Nat), v0 = .int .i64 t.base ∧ v1 = .int .i64 t.tm ∧ v2 = .slice A2 n2 c2 ∧ Rd w B ([entD t.ents]) [.slice A2 n2 c2] := by
 have g0 : Rd w B ([.int t.base] ++ ([.int t.tm] ++ ([entD t.ents]))) [v0, v1, v2] := h
 obtain ⟨p0, g1⟩ := Rd.cut (ds := [.int t.base]) (vs := [v0]) (vs' := [v1, v2]) g0 rfl
 obtain ⟨e0, _⟩ := Rd.int_cons p0
 obtain ⟨p1, g2⟩ := Rd.cut (ds := [.int t.tm]) (vs := [v1]) (vs' := [v2]) g1 rfl
 obtain ⟨e1, _⟩ := Rd.int_cons p1
 have p2 := g2
 obtain ⟨A2, n2, c2, e2, _⟩ := Rd.ents p2
 subst e0
 subst e1
 subst e2
 exact ⟨A2, n2, c2, rfl, rfl, rfl, p2⟩
theorem Ow.bookT {w : World} {t : BookM} {v0 v1 v2 : Value} {fp : List Nat} (h : Ow w t.cells [v0, v1, v2] fp) : ∃ f2, fp = f2 ++ ([]) ∧ Ow w ([entD t.ents]) [v2] f2 := by
 have g0 : Ow w ([.int t.base] ++ ([.int t.tm] ++ ([entD t.ents] ++ ([])))) [v0, v1, v2] fp := h
 obtain ⟨_, g1⟩ := Ow.int_cons g0
 obtain ⟨_, g2⟩ := Ow.int_cons g1
 obtain ⟨f2, r2, rfl, o2, g3⟩ := Ow.cut (ds := [entD t.ents]) (vs := [v2]) (vs' := []) g2 rfl
 have gz := Ow.nil_foot g3
 subst gz
 exact ⟨f2, rfl, o2⟩
theorem book_n9 (t : BookM) : t.n ≤ 9 * t.sz := by
 have h0 : entN t.ents ≤ 9 * (entSz t.ents) := (Nat.le_trans (entN_le t.ents) (Nat.mul_le_mul_right _ (by decide)))
 show entN t.ents ≤ 9 * (entSz t.ents)
 omega
theorem book_n_le (t : BookM) (h : t.sz ≤ 1048577) : t.n ≤ 9437193 := by
 have := book_n9 t
 omega
set_option maxHeartbeats 6400000 in
theorem eqBook_yes (v0 v1 v2 u0 u1 u2 : Value) (B B' : Nat) (t : BookM) (w : World) (h : Rd w B t.cells [v0, v1, v2]) (h' : Rd w B' t.cells [u0, u1, u2]) (hB : B ≤ w.heap.size) (hB' : B' ≤ w.heap.size) (hs : t.sz ≤ 1048577) :
    Calls Tryz.prog 35 #[.agg #[v0, v1, v2], .agg #[u0, u1, u2]] w fun e w' => e = .returned (.bool true) ∧ Below w.heap.size w w' := by
 obtain ⟨Aa2, na2, ca2, rfl, rfl, rfl, hr2⟩ := h.bookT
 obtain ⟨Ab2, nb2, cb2, rfl, rfl, rfl, kr2⟩ := h'.bookT
 have S := Sep.nil w w.heap.size
 have c := Below.refl w.heap.size w
 have hz2 : entSz t.ents ≤ 1048577 := by unfold BookM.sz at hs; omega
 replace S := S.boxAt c.size (w.heap.size) rfl #[.int .i64 t.base, .int .i64 t.tm, .slice Aa2 na2 ca2] 47
 replace c := al c S
 replace S := S.boxAt c.size (w.heap.size + 1) (by simp) #[.int .i64 t.base, .int .i64 t.tm, .slice Ab2 nb2 cb2] 47
 replace c := al c S
 go_enter Tryz.func35, Tryz.ntmps35
 go_wp2_with fail
 generalize (w.alloc (.cells #[.int .i64 t.base, .int .i64 t.tm, .slice Aa2 na2 ca2] 47)).alloc (.cells #[.int .i64 t.base, .int .i64 t.tm, .slice Ab2 nb2 cb2] 47) = w1 at *
 refine (eqEntryS_yes _ _ _ _ _ _ _ _ t.ents _ (hr2.keep (c.mono hB)) (kr2.keep (c.mono hB')) (Nat.le_trans hB c.size) (Nat.le_trans hB' c.size) hz2).mono ?_
 rintro e w2 ⟨rfl, b⟩
 replace c := c.trans (b.mono c.size)
 replace S := S.keep b
 clear b
 have C := jd c
 clear S c h h' hr2 kr2
 go_wp2
 go_ret
 exact ⟨rfl, C.out⟩
set_option maxHeartbeats 6400000 in
theorem markBook_any (v0 v1 v2 : Value) (t : BookM) (fp : List Nat) (w : World) (o : Ow w t.cells [v0, v1, v2] fp) (hnd : fp.Nodup) (hs : t.sz ≤ 1048577) (k : Int) (k0 : 0 ≤ k) (k1 : k ≤ 90000000000) :
    Calls Tryz.prog 40 #[.agg #[v0, v1, v2], .int .i64 k] w fun e w' => ∃ t', e = .returned (.int .i64 (k + (t.n : Int))) ∧ Ow w' t'.cells [v0, v1, v2] fp ∧ Touch fp w w' ∧ MarkedBook t' k ∧ t'.n = t.n ∧ t'.sz = t.sz := by
 obtain ⟨Aa2, na2, ca2, rfl, rfl, rfl, _hr2⟩ := o.rd.bookT
 have hz2 : entSz t.ents ≤ 1048577 := by unfold BookM.sz at hs; omega
 have h9 := book_n_le t hs
 have hna : t.n = entN t.ents := rfl
 obtain ⟨f2, rfl, o2⟩ := Ow.bookT o
 have n0 := hnd
 have n1 := (List.nodup_append.1 n0).2.1
 have S := Sep.nil w 0
 replace S := S.addOw o2 n0
 clear o o2 n0 n1
 have T := Touch.of_below ((Below.refl _ w).alloc (Nat.le_refl _) (.cells #[.int .i64 t.base, .int .i64 t.tm, .slice Aa2 na2 ca2] 47)) (f2 ++ ([]))
 replace S := S.boxAt (Nat.zero_le _) w.heap.size rfl #[.int .i64 t.base, .int .i64 t.tm, .slice Aa2 na2 ca2] 47
 go_enter Tryz.func40, Tryz.ntmps40
 go_wp2_with fail
 generalize w.alloc (.cells #[.int .i64 t.base, .int .i64 t.tm, .slice Aa2 na2 ca2] 47) = w1 at *
 refine (markEntryS_any _ _ _ t.ents f2 _ (S.own_ 1 rfl) (S.nodup_own 1 rfl) hz2 _ (by omega) (by omega)).mono ?_
 rintro e w2 ⟨d2, rfl, o, t', m2, en2, es2⟩
 replace T := T.trans (t'.mono (fun p hp => by simp [hp]))
 replace S := S.mark 1 rfl t' o
 clear o t'
 have M2 := jd m2
 clear m2
 have R0 : Ow _ (BookM.cells (⟨t.base, t.tm, d2⟩)) [.int .i64 t.base, .int .i64 t.tm, .slice Aa2 na2 ca2] (f2 ++ ([])) := (.int (.int (Ow.append (S.own_ 1 rfl) .nil)))
 have R := jd R0
 have TT := jd T
 have E := jd (And.intro hna (And.intro (en2) (es2)))
 clear S T R0 hna en2 es2
 go_wp2
 go_ret
 obtain ⟨hna, en, es⟩ := E.out
 obtain en2 := en
 obtain es2 := es
 refine ⟨⟨t.base, t.tm, d2⟩, ?_, R.out, TT.out, ?_, ?_, ?_⟩
 · refine congrArg Ending.returned (congrArg (Value.int .i64) ?_)
   omega
 · show MarkedEntryS d2 (k)
   exact M2.out
 · show entN d2 = entN t.ents
   omega
 · show entSz d2 = entSz t.ents
   omega
set_option maxHeartbeats 6400000 in
theorem heldBook_any (v0 v1 v2 : Value) (t : BookM) (B : Nat) (w : World) (h : Rd w B t.cells [v0, v1, v2]) (hB : B ≤ w.heap.size) (hs : t.sz ≤ 1048577) (k : Int) (k0 : 0 ≤ k) (k1 : k ≤ 90000000000) (hm : MarkedBook t k) :
    Calls Tryz.prog 41 #[.agg #[v0, v1, v2], .int .i64 k] w fun e w' => e = .returned (.int .i64 (k + (t.n : Int))) ∧ Below w.heap.size w w' := by
 obtain ⟨Aa2, na2, ca2, rfl, rfl, rfl, hr2⟩ := h.bookT
 have S := Sep.nil w w.heap.size
 have c := Below.refl w.heap.size w
 have hz2 : entSz t.ents ≤ 1048577 := by unfold BookM.sz at hs; omega
 have h9 := book_n_le t hs
 have hna : t.n = entN t.ents := rfl
 have m2 : MarkedEntryS t.ents k := hm
 replace S := S.boxAt c.size (w.heap.size) rfl #[.int .i64 t.base, .int .i64 t.tm, .slice Aa2 na2 ca2] 47
 replace c := al c S
 go_enter Tryz.func41, Tryz.ntmps41
 go_wp2_with fail
 generalize w.alloc (.cells #[.int .i64 t.base, .int .i64 t.tm, .slice Aa2 na2 ca2] 47) = w1 at *
 refine (heldEntryS_any _ _ _ t.ents _ _ (hr2.keep (c.mono hB)) (Nat.le_trans hB c.size) hz2 _ (by omega) (by omega) m2).mono ?_
 rintro e w2 ⟨rfl, b⟩
 replace c := c.trans (b.mono c.size)
 replace S := S.keep b
 clear b
 have q2 : ¬ (k + (entN t.ents : Int) < 0) := by omega
 have C := jd c
 have HN := jd hna
 clear S c h hna hr2 m2
 go_wp2
 go_ret
 refine ⟨congrArg Ending.returned (congrArg (Value.int .i64) ?_), C.out⟩
 rw [HN.out]
end Go.Proofs.YtmjifhjhialcbaaGreat

/- Parts of my texts: Mark Head. -/
import Derived.Test.YtmjifhjhialcbaaGreatK1
import Derived.RegionTactic
namespace Go.Proofs.YtmjifhjhialcbaaGreat
set_option maxRecDepth 100000
set_option linter.unusedVariables false
open Go.RowKit
structure MarkM where
 mc : Int
 ms : Int
 mi : Int
def mrkC (x : MarkM) : List Dat := [.int x.mc, .int x.ms, .int x.mi]
theorem mrkC_len (x : MarkM) : (mrkC x).length = 3 := rfl
def mrkD (l : List MarkM) : Dat := lst 113 3 mrkC l
def mrkSz (l : List MarkM) : Nat := l.length
def mrkNs (x : MarkM) : List Int := x.mc :: x.ms :: x.mi :: []
def mrkN (l : List MarkM) : Nat := nums mrkNs l l.length
def MarkedMarkS (l : List MarkM) (k : Int) : Prop := l.flatMap mrkNs = upFrom k (l.flatMap mrkNs).length
def MadeMarkS (w : World) (l : List MarkM) (e : Ending) (w' : World) : Prop :=
 ∃ A n c, e = .returned (.slice A n c) ∧ Has w' w.heap.size [mrkD l] [.slice A n c] ∧ Below w.heap.size w w'
theorem infoMark : (Tryz.prog.info? 113).map (fun i => (i.zero, i.size, i.bytes)) = some (some (.agg #[.int .i64 0, .int .i64 0, .int .i64 0]), 3, 24) := by kernel_rfl
theorem ow_zero_mrk (w : World) : Ow w (mrkC (⟨0, 0, 0⟩ : MarkM)) [.int .i64 0, .int .i64 0, .int .i64 0] [] := .int (.int (.int (.nil)))
theorem Rd.mrks {w : World} {B : Nat} {v0 : Value} {l : List MarkM} (h : Rd w B [mrkD l] [v0]) : ∃ A n c, v0 = .slice A n c ∧ l.length = n ∧ n ≤ c ∧ c ≤ maxLen ∧
    (0 < n → ∃ b off, A = some ⟨b, off, none⟩ ∧ b < B ∧ ∀ j (hj : j < l.length), w.cell? ⟨b, off + j * 3, none⟩ = some (.int .i64 l[j].mc) ∧ w.cell? ⟨b, off + j * 3 + 1, none⟩ = some (.int .i64 l[j].ms) ∧ w.cell? ⟨b, off + j * 3 + 2, none⟩ = some (.int .i64 l[j].mi)) := by
 obtain ⟨A, n, c, rfl, hl, h1, h2, h3⟩ := Rd.lst (k := 3) mrkC_len (by decide) h
 refine ⟨A, n, c, rfl, hl, h1, h2, fun hn => ?_⟩
 obtain ⟨b, off, rfl, hb, hc⟩ := h3 hn
 refine ⟨b, off, rfl, hb, fun j hj => ?_⟩
 obtain ⟨es, he, hr, hcell⟩ := hc j hj
 match es, he with
 | [u0, u1, u2], _ =>
  have h0' := hcell 0 (by omega)
  have h1' := hcell 1 (by omega)
  have h2' := hcell 2 (by omega)
  simp only [Nat.add_zero] at h0'
  have g0 : Rd w B (mrkC l[j]) [u0, u1, u2] := hr
  obtain ⟨e0, g1⟩ := Rd.int_cons g0
  obtain ⟨e1, g2⟩ := Rd.int_cons g1
  obtain ⟨e2, g3⟩ := Rd.int_cons g2
  subst e0
  subst e1
  subst e2
  exact ⟨h0', h1', h2'⟩
theorem Ow.mrk {w : World} {x : MarkM} {y0 y1 y2 : Value} {f2 : List Nat} (h : Ow w (mrkC x) [y0, y1, y2] f2) : y0 = .int .i64 x.mc ∧ y1 = .int .i64 x.ms ∧ y2 = .int .i64 x.mi ∧ f2 = [] := by
 have g0 : Ow w (mrkC x) [y0, y1, y2] f2 := h
 obtain ⟨e0, g1⟩ := Ow.int_cons g0
 obtain ⟨e1, g2⟩ := Ow.int_cons g1
 obtain ⟨e2, g3⟩ := Ow.int_cons g2
 exact ⟨e0, e1, e2, Ow.nil_foot g3⟩
theorem mrkN_eq (l : List MarkM) : (l.map (fun r => (mrkNs r).length)).sum = 3 * l.length := by
 induction l with
 | nil => rfl
 | cons x l ih =>
  rw [List.map_cons, List.sum_cons, ih, List.length_cons]
  have h1 : (mrkNs x).length = 3 := rfl
  omega
theorem mrkN_le (l : List MarkM) : mrkN l ≤ 3 * mrkSz l := by
 unfold mrkN nums
 rw [pre_all, mrkN_eq]
 unfold mrkSz
 omega
theorem mrkSz_map {l l' : List MarkM} (h : l'.map (fun r => (mrkNs r).length) = l.map (fun r => (mrkNs r).length)) : mrkSz l' = mrkSz l := by
 have h1 := len_of_map h
 exact h1
set_option maxHeartbeats 1600000 in
theorem toMark_any (x0 x1 x2 : Int) (w : World) :
    Calls Tryz.prog 146 #[.agg #[.int .i64 x0, .int .i64 x1, .int .i64 x2]] w fun e w' => e = .returned (.agg #[.int .i64 x0, .int .i64 x1, .int .i64 x2]) ∧ Below w.heap.size w w' := by
 have C := jd ((((Below.refl w.heap.size w).alloc (Nat.le_refl _) (.cells #[.int .i64 x0, .int .i64 x1, .int .i64 x2] 168)).alloc (by simp) (.cells #[.int .i64 x0, .int .i64 x1, .int .i64 x2] 113)).alloc (by simp; omega) (.cells #[.int .i64 x0, .int .i64 x1, .int .i64 x2] 113))
 go_enter Tryz.func146, Tryz.ntmps146
 go_wp2
 exact bodyPost_ret (v := .agg #[.int .i64 x0, .int .i64 x1, .int .i64 x2]) (by simp [results, Tryz.results146, go_sem]) rfl ⟨rfl, C.out⟩
set_option maxHeartbeats 3200000 in
theorem toMarkS_made (A : Option Addr) (n c : Nat) (l : List MarkM) (w : World) (h : Rd w w.heap.size [mrkD l] [.slice A n c]) (hs : mrkSz l ≤ 1048576) :
    Calls Tryz.prog 86 #[.slice A n c] w (MadeMarkS w l) := by
 obtain ⟨A', n', c', e, hl, hnc, hcm, hel⟩ := h.mrks
 injection e with e1 e2 e3
 subst e1 e2 e3
 have hn : n ≤ 1048576 := by unfold mrkSz at hs; omega
 have HS := jd hs
 have HL := jd hl
 have hmk := run_make_k (P := Tryz.prog) 43 113 (.agg #[.int .i64 0, .int .i64 0, .int .i64 0]) #[.int .i64 0, .int .i64 0, .int .i64 0] 3 24 Tryz.underlying43 infoMark rfl .i64 .i64 n (by omega) (by omega)
 have O0 := jd (ow_made (w := w) (e := 113) (f := mrkC) (x0 := (⟨0, 0, 0⟩ : MarkM)) (zc := #[.int .i64 0, .int .i64 0, .int .i64 0]) (k := 3) rfl (by decide) n (by simp only [maxLen]; omega) ow_zero_mrk)
 have B0 := jd ((Below.refl w.heap.size w).alloc (Nat.le_refl _) (.cells (madeCells #[.int .i64 0, .int .i64 0, .int .i64 0] (n * 3)) 113))
 clear hl hs h
 go_enter Tryz.func86, Tryz.ntmps86
 go_wp2
 go_loopw [4] (fun i wr => ∃ (j : Nat) (fp : List Nat), j ≤ n ∧ i = .int .i64 (j : Int) ∧ Ow wr [mrkD (l.take j ++ List.replicate (n - j) (⟨0, 0, 0⟩ : MarkM))] [.slice (some ⟨w.heap.size, 0, none⟩) n n] fp ∧ fp.Nodup ∧ (∀ p ∈ fp, w.heap.size ≤ p) ∧ Below w.heap.size w wr) (fun i _ => n - (intOf i).toNat)
 case atStart => exact ⟨0, _, Nat.zero_le _, rfl, O0.out, by simp, by simp, B0.out⟩
 case round =>
  obtain ⟨j, fp, hj, rfl, hown, hnd, hge, hbel⟩ := hrel
  clear hmk O0 B0
  by_cases hlt : j < n
  · obtain ⟨b, off, rfl, hb, hc⟩ := hel (by omega)
    have hjl : j < l.length := by have := HL.out; omega
    obtain ⟨hc0, hc1, hc2⟩ := hc j hjl
    have cs0 := (hbel.cell (p := ⟨b, off + j * 3, none⟩) hb).trans hc0
    have cs1 := (hbel.cell (p := ⟨b, off + j * 3 + 1, none⟩) hb).trans hc1
    have cs2 := (hbel.cell (p := ⟨b, off + j * 3 + 2, none⟩) hb).trans hc2
    obtain ⟨x0, hx0⟩ : ∃ x0, x0 = l[j].mc := ⟨_, rfl⟩
    obtain ⟨x1, hx1⟩ : ∃ x1, x1 = l[j].ms := ⟨_, rfl⟩
    obtain ⟨x2, hx2⟩ : ∃ x2, x2 = l[j].mi := ⟨_, rfl⟩
    rw [← hx0] at cs0
    rw [← hx1] at cs1
    rw [← hx2] at cs2
    have HX := jd (show l[j] = ⟨x0, x1, x2⟩ by rw [hx0, hx1, hx2])
    clear hx0 hx1 hx2 hc hc0 hc1 hc2
    go_wp2_with fail
    refine (toMark_any x0 x1 x2 _).mono ?_
    rintro e w1 ⟨rfl, b1⟩
    have hown1 := hown.keep b1
    have hl2 : (l.take j ++ List.replicate (n - j) (⟨0, 0, 0⟩ : MarkM)).length = n := by simp; have := HL.out; omega
    obtain ⟨es, he, hcell, hfr⟩ := Ow.slots (k := 3) mrkC_len (by decide) hown1 (j := j) (by omega)
    have ck0 := hcell 0 (by decide)
    have ck1 := hcell 1 (by decide)
    have ck2 := hcell 2 (by decide)
    rw [Nat.add_zero] at ck0
    match es, he with
    | [y0, y1, y2], _ =>
    have ck0' : w1.cell? ⟨w.heap.size, j * 3, none⟩ = some y0 := ck0
    have ck1' : w1.cell? ⟨w.heap.size, j * 3 + 1, none⟩ = some y1 := ck1
    have ck2' : w1.cell? ⟨w.heap.size, j * 3 + 2, none⟩ = some y2 := ck2
    have fk0 := hfr (j * 3)
    have fk1 := hfr (j * 3 + 1)
    have fk2 := hfr (j * 3 + 2)
    have ho : Ow w1 (mrkC ⟨x0, x1, x2⟩) [.int .i64 x0, .int .i64 x1, .int .i64 x2] [] := .int (.int (.int (.nil)))
    have hfresh : ∀ p ∈ ([] : List Nat), wr.heap.size ≤ p := fun p hp => by cases hp
    have hold := hown.lt
    obtain ⟨ht, fp', hfin, hnd', hsub⟩ := Ow.store (k := 3) mrkC_len (by decide) hown1 hnd (j := j) (x := ⟨x0, x1, x2⟩) (by omega) ho List.nodup_nil (fun p hp hm => by have := hfresh p hp; have := hold p hm; omega)
    have z := hbel.size
    have R1 := jd (show Ow (puts w1 w.heap.size (j * 3) [.int .i64 x0, .int .i64 x1, .int .i64 x2]) [mrkD (l.take (j + 1) ++ List.replicate (n - (j + 1)) (⟨0, 0, 0⟩ : MarkM))] [.slice (some ⟨w.heap.size, 0, none⟩) n n] fp' by
     have h1 := fill_step (x0 := (⟨0, 0, 0⟩ : MarkM)) HL.out hjl
     rw [HX.out] at h1
     rw [← h1]
     exact hfin)
    have R2 := jd (show ∀ p ∈ fp', w.heap.size ≤ p from fun p hp => by
     rcases hsub p hp with h | h
     · exact hge p h
     · have := hfresh p h; omega)
    have b01 := hbel.trans (b1.mono hbel.size)
    have R3 := jd (show Below w.heap.size w (puts w1 w.heap.size (j * 3) [.int .i64 x0, .int .i64 x1, .int .i64 x2]) from b01.trans (ht.below (by simp) b01.size))
    have R4 := jd hnd'
    clear hown hown1 hfin hnd' hsub ht ho b1 b01 hcell hfr ck0 ck1 ck2 hbel hl2 hfresh hold
    go_wp2
    go_roundw
    case rel => exact ⟨j + 1, fp', by omega, by go_num, R1.out, R4.out, R2.out, R3.out⟩
    case measure => simp [intOf]; omega
  · go_wp2
    go_ret
    have e : n - j = 0 := by omega
    rw [e, List.replicate_zero, List.append_nil, List.take_of_length_le (by have := HL.out; omega)] at hown
    exact ⟨_, _, _, rfl, ⟨fp, hown, hnd, hge⟩, hbel⟩
set_option maxHeartbeats 1600000 in
theorem eqMark_one (x0 x1 x2 : Int) (w : World) :
    Calls Tryz.prog 153 #[.agg #[.int .i64 x0, .int .i64 x1, .int .i64 x2], .agg #[.int .i64 x0, .int .i64 x1, .int .i64 x2]] w fun e w' => e = .returned (.bool true) ∧ Below w.heap.size w w' := by
 have b0 : Below w.heap.size w ((w.alloc (.cells #[.int .i64 x0, .int .i64 x1, .int .i64 x2] 113)).alloc (.cells #[.int .i64 x0, .int .i64 x1, .int .i64 x2] 113)) :=
  ((Below.refl _ w).alloc (Nat.le_refl _) _).alloc (by simp) _
 have B0 := jd b0
 clear b0
 go_enter Tryz.func153, Tryz.ntmps153
 go_wp2
 go_ret
 exact ⟨rfl, B0.out⟩
set_option maxHeartbeats 3200000 in
theorem eqMarkS_yes (A A' : Option Addr) (n n' c c' B B' : Nat) (l : List MarkM) (w : World) (h : Rd w B [mrkD l] [.slice A n c]) (h' : Rd w B' [mrkD l] [.slice A' n' c']) (hB : B ≤ w.heap.size) (hB' : B' ≤ w.heap.size) (hs : mrkSz l ≤ 1048577) :
    Calls Tryz.prog 92 #[.slice A n c, .slice A' n' c'] w fun e w' => e = .returned (.bool true) ∧ Below w.heap.size w w' := by
 obtain ⟨_, _, _, e, hl, _, _, hel⟩ := h.mrks
 injection e with e1 e2 e3
 subst e1 e2 e3
 obtain ⟨_, _, _, e, hl', _, _, hel'⟩ := h'.mrks
 injection e with e1 e2 e3
 subst e1 e2 e3
 obtain rfl : n = n' := by rw [← hl, hl']
 have hn : n ≤ 1048577 := by unfold mrkSz at hs; omega
 have HS := jd hs
 have HL := jd hl
 clear hl hl' hs h h'
 go_enter Tryz.func92, Tryz.ntmps92
 go_wp2
 go_loopw [5] (fun i wr => ∃ j : Nat, j ≤ n ∧ i = .int .i64 (j : Int) ∧ Below w.heap.size w wr) (fun i _ => n - (intOf i).toNat)
 case atStart => exact ⟨0, Nat.zero_le _, rfl, Below.refl _ _⟩
 case round =>
  obtain ⟨j, hj, rfl, hbel⟩ := hrel
  by_cases hlt : j < n
  · obtain ⟨b, off, rfl, hb, hc⟩ := hel (by omega)
    obtain ⟨b', off', rfl, hb', hc'⟩ := hel' (by omega)
    have hjl : j < l.length := by have := HL.out; omega
    obtain ⟨hc0, hc1, hc2⟩ := hc j hjl
    obtain ⟨hd0, hd1, hd2⟩ := hc' j hjl
    have cs0 := (hbel.cell (p := ⟨b, off + j * 3, none⟩) (show b < _ by omega)).trans hc0
    have cs1 := (hbel.cell (p := ⟨b, off + j * 3 + 1, none⟩) (show b < _ by omega)).trans hc1
    have cs2 := (hbel.cell (p := ⟨b, off + j * 3 + 2, none⟩) (show b < _ by omega)).trans hc2
    have ct0 := (hbel.cell (p := ⟨b', off' + j * 3, none⟩) (show b' < _ by omega)).trans hd0
    have ct1 := (hbel.cell (p := ⟨b', off' + j * 3 + 1, none⟩) (show b' < _ by omega)).trans hd1
    have ct2 := (hbel.cell (p := ⟨b', off' + j * 3 + 2, none⟩) (show b' < _ by omega)).trans hd2
    generalize l[j].mc = x0 at *
    generalize l[j].ms = x1 at *
    generalize l[j].mi = x2 at *
    have i0 : (0 : Int) ≤ (j : Int) := by omega
    have i1 : (j : Int) < (n : Int) := by omega
    have z := hbel.size
    have HB := jd hbel
    clear hc hc' hc0 hd0 hc1 hd1 hc2 hd2 hel hel' hbel
    go_wp2_with fail
    go_region_with (first
     | (go_at_call 153
        refine (eqMark_one x0 x1 x2 _).mono ?_
        rintro e w1 ⟨rfl, b1⟩
        have BB := jd (HB.out.drew.trans (b1.mono (by show w.heap.size ≤ wr.heap.size; omega)))))
    all_goals
     go_wp2
     go_roundw
     case rel => exact ⟨j + 1, by omega, by go_num, BB.out⟩
     case measure => simp [intOf]; omega
  · go_wp2
    go_ret
    exact ⟨rfl, hbel⟩
theorem szMarkS_any (A : Option Addr) (n c : Nat) (l : List MarkM) (B : Nat) (L : Int) (w : World) (h : Rd w B [mrkD l] [.slice A n c]) (_hB : B ≤ w.heap.size) (l0 : 0 ≤ L) (l1 : L ≤ 1048576) :
    Calls Tryz.prog 79 #[.slice A n c, .int .i64 L] w fun e w' => e = .returned (.int .i64 (left L (mrkSz l))) ∧ Below w.heap.size w w' := by
 obtain ⟨_, _, _, e, hl, h1, h2, _⟩ := h.mrks
 injection e with e1 e2 e3
 subst e1 e2 e3
 have hm : n ≤ maxLen := Nat.le_trans h1 h2
 unfold maxLen at hm
 have e : mrkSz l = n := hl
 rw [e]
 clear h hl e
 by_cases h : (n : Int) ≤ L
 · rw [left, if_pos h]
   go_enter Tryz.func79, Tryz.ntmps79
   go_wp2
   go_ret
   exact ⟨rfl, Below.refl _ _⟩
 · rw [left, if_neg h]
   go_enter Tryz.func79, Tryz.ntmps79
   go_wp2
   go_ret
   exact ⟨rfl, Below.refl _ _⟩
set_option maxHeartbeats 6400000 in
theorem markMarkS_any (A : Option Addr) (n c : Nat) (l : List MarkM) (fp : List Nat) (w : World) (o : Ow w [mrkD l] [.slice A n c] fp) (hnd : fp.Nodup) (hs : mrkSz l ≤ 1048577) (k : Int) (k0 : 0 ≤ k) (k1 : k ≤ 100000000000) :
    Calls Tryz.prog 94 #[.slice A n c, .int .i64 k] w fun e w' => ∃ l', e = .returned (.int .i64 (k + (mrkN l : Int))) ∧ Ow w' [mrkD l'] [.slice A n c] fp ∧ Touch fp w w' ∧ MarkedMarkS l' k ∧ mrkN l' = mrkN l ∧ mrkSz l' = mrkSz l := by
 suffices H : Calls Tryz.prog 94 #[.slice A n c, .int .i64 k] w fun e w' => ∃ l', e = .returned (.int .i64 (k + (nums mrkNs l l.length : Int))) ∧ Ow w' [mrkD l'] [.slice A n c] fp ∧ Touch fp w w' ∧ l'.map (fun r => (mrkNs r).length) = l.map (fun r => (mrkNs r).length) ∧ l'.flatMap mrkNs = upFrom k (nums mrkNs l l.length) by
  refine H.mono ?_
  rintro e w' ⟨l', rfl, o', t', h1, h2⟩
  have h3 := len_of_map h1
  refine ⟨l', rfl, o', t', ?_, ?_, mrkSz_map h1⟩
  · show l'.flatMap mrkNs = upFrom k (l'.flatMap mrkNs).length
    rw [h2, upFrom_length]
  · show nums mrkNs l' l'.length = nums mrkNs l l.length
    rw [h3]
    exact nums_map h1 _
 obtain ⟨A', n', c', e, hl, _, _⟩ := o.rd.mrks
 injection e with e1 e2 e3
 subst e1 e2 e3
 have HL := jd hl
 have hn : n ≤ 1048577 := by unfold mrkSz at hs; omega
 have HS := jd hs
 have O := jd o
 have HN := jd hnd
 clear o hs hnd hl
 go_enter Tryz.func94, Tryz.ntmps94
 go_wp2
 go_loopw [1, 5] (fun q i wr => ∃ (j : Nat) (l' : List MarkM), j ≤ n ∧ i = .int .i64 (j : Int) ∧ q = .int .i64 (k + (nums mrkNs l j : Int)) ∧ l'.map (fun r => (mrkNs r).length) = l.map (fun r => (mrkNs r).length) ∧ (l'.take j).flatMap mrkNs = upFrom k (nums mrkNs l j) ∧ Ow wr [mrkD l'] [.slice A n c] fp ∧ Touch fp w wr) (fun _ i _ => n - (intOf i).toNat)
 case atStart => exact ⟨0, l, Nat.zero_le _, rfl, by simp [nums, pre_zero], rfl, by simp [nums, pre_zero, upFrom], O.out, Touch.refl _ _⟩
 case round =>
  obtain ⟨j, l', hj, rfl, rfl, hmap, hflat, hown, htch⟩ := hrel
  have hll : l'.length = l.length := by simpa using congrArg List.length hmap
  by_cases hlt : j < n
  · have hjl : j < l'.length := by have := HL.out; omega
    have hjl2 : j < l.length := by have := HL.out; omega
    have hlen0 : (mrkNs l'[j]).length = (mrkNs l[j]).length := by
     have h1 := congrArg (fun q => q[j]?) hmap
     simp [List.getElem?_eq_getElem hjl, List.getElem?_eq_getElem hjl2] at h1
     exact h1
    obtain ⟨g, d, es, f2, e, _, _, he, hcell, hfr, hel, hn2, hg2, hgf, hsub, _, _⟩ := Ow.elem (k := 3) mrkC_len (by decide) hown HN.out (j := j) hjl
    injection e with e e2 e3
    subst e e3
    match es, he with
    | [y0, y1, y2], _ =>
    obtain ⟨ey0, ey1, ey2, ef2⟩ := Ow.mrk hel
    subst ey0
    subst ey1
    subst ey2
    subst ef2
    have ck0 := hcell 0 (by decide)
    have ck1 := hcell 1 (by decide)
    have ck2 := hcell 2 (by decide)
    rw [Nat.add_zero] at ck0
    have cl0 : wr.cell? ⟨g, j * 3, none⟩ = some (.int .i64 l'[j].mc) := ck0
    have cl1 : wr.cell? ⟨g, j * 3 + 1, none⟩ = some (.int .i64 l'[j].ms) := ck1
    have cl2 : wr.cell? ⟨g, j * 3 + 2, none⟩ = some (.int .i64 l'[j].mi) := ck2
    have fk0 := hfr (j * 3)
    have fk1 := hfr (j * 3 + 1)
    have fk2 := hfr (j * 3 + 2)
    have hlen : 3 = (mrkNs l[j]).length := rfl
    have hnj : nums mrkNs l (j + 1) = nums mrkNs l j + 3 := by rw [hlen]; exact pre_succ hjl2
    have hb1 : nums mrkNs l j + 3 ≤ 3145731 := by
     rw [hlen]
     have h1 : nums mrkNs l j + (mrkNs l[j]).length ≤ (l.map (fun r => (mrkNs r).length)).sum := pre_at (g := fun r => (mrkNs r).length) hjl2
     have h2 := HS.out
     unfold mrkSz at h2
     have h3 := mrkN_eq l
     omega
    generalize hN : nums mrkNs l j = N at *
    obtain ⟨x0, hx0⟩ : ∃ x, x = l'[j].mc := ⟨_, rfl⟩
    obtain ⟨x1, hx1⟩ : ∃ x, x = l'[j].ms := ⟨_, rfl⟩
    obtain ⟨x2, hx2⟩ : ∃ x, x = l'[j].mi := ⟨_, rfl⟩
    rw [← hx0] at cl0
    rw [← hx1] at cl1
    rw [← hx2] at cl2
    have hlj : l'[j] = ⟨x0, x1, x2⟩ := by rw [hx0, hx1, hx2]
    obtain ⟨tg, hown2⟩ := Ow.storeFront (k := 3) mrkC_len (by decide) hown HN.out (j := j) hjl (x := ⟨k + (N : Int), k + (N : Int) + 1, k + (N : Int) + 1 + 1⟩) (xs := [x0, x1, x2]) (xs' := [k + (N : Int), k + (N : Int) + 1, k + (N : Int) + 1 + 1]) (rest := []) (by rw [hlj]; rfl) rfl rfl
    have t2 := htch.trans (tg.mono (fun p hp => by have : p = g := by simpa using hp
                                                   rw [this]; exact hgf))
    have R1 := jd hown2
    have R2 := jd t2
    have HJ := jd hnj
    have HM := jd hmap
    have HF := jd hflat
    have HE := jd hlen
    have HLL := jd hll
    have HNN := jd hN
    have HL0 := jd hlen0
    clear hmap hflat htch hsub hcell ck0 ck1 ck2 hel hown hown2 hfr hgf hlen hnj hN hll e2 tg t2 hlen0 hx0 hx1 hx2 hlj
    go_wp2
    go_roundw
    case rel =>
     refine ⟨j + 1, _, by omega, by go_num, by rw [HJ.out]; go_num, ?_, ?_, R1.out, R2.out⟩
     · rw [set_map hjl ?_]
       · exact HM.out
       · exact rfl
     · have h1 := nums_map HM.out j
       have h2 := flat_step (g := mrkNs) (l := l') (j := j) (k := k) (x := ⟨k + (N : Int), k + (N : Int) + 1, k + (N : Int) + 1 + 1⟩) hjl (by rw [h1, HNN.out]; exact HF.out) (by
        rw [h1, HNN.out]
        show [k + (N : Int), k + (N : Int) + 1, k + (N : Int) + 1 + 1] = upFrom (k + (N : Int)) 3
        simp only [upFrom_cons, upFrom_zero])
       rw [h2, h1, HNN.out, HJ.out]
       rfl
    case measure => simp [intOf]; omega
  · go_wp2
    go_ret
    have hjn : j = l.length := by have := HL.out; omega
    subst hjn
    refine ⟨l', rfl, hown, htch, hmap, ?_⟩
    rw [List.take_of_length_le (by omega)] at hflat
    exact hflat
structure HeadM where
 num : Int
 base : Int
 tm : Int
 seen : List MarkM
def HeadM.cells (t : HeadM) : List Dat := [.int t.num] ++ ([.int t.base] ++ ([.int t.tm] ++ ([mrkD t.seen])))
def HeadM.sz (t : HeadM) : Nat := mrkSz t.seen
def HeadM.n (t : HeadM) : Nat := mrkN t.seen
def MarkedHead (t : HeadM) (k : Int) : Prop := MarkedMarkS t.seen (k)
def MadeHead (w : World) (t : HeadM) (e : Ending) (w' : World) : Prop :=
 ∃ (x0 : Int) (x1 : Int) (x2 : Int) (A3 : Option Addr) (n3 c3 : Nat), e = .returned (.agg #[.int .i64 x0, .int .i64 x1, .int .i64 x2, .slice A3 n3 c3]) ∧ Has w' w.heap.size t.cells [.int .i64 x0, .int .i64 x1, .int .i64 x2, .slice A3 n3 c3] ∧ Below w.heap.size w w'
theorem Rd.headT {w : World} {B : Nat} {t : HeadM} {v0 v1 v2 v3 : Value} (h : Rd w B t.cells [v0, v1, v2, v3]) : ∃ (A3 : Option Addr) (n3 c3 : Nat), v0 = .int .i64 t.num ∧ v1 = .int .i64 t.base ∧ v2 = .int .i64 t.tm ∧ v3 = .slice A3 n3 c3 ∧ Rd w B ([mrkD t.seen]) [.slice A3 n3 c3] := by
 have g0 : Rd w B ([.int t.num] ++ ([.int t.base] ++ ([.int t.tm] ++ ([mrkD t.seen])))) [v0, v1, v2, v3] := h
 obtain ⟨p0, g1⟩ := Rd.cut (ds := [.int t.num]) (vs := [v0]) (vs' := [v1, v2, v3]) g0 rfl
 obtain ⟨e0, _⟩ := Rd.int_cons p0
 obtain ⟨p1, g2⟩ := Rd.cut (ds := [.int t.base]) (vs := [v1]) (vs' := [v2, v3]) g1 rfl
 obtain ⟨e1, _⟩ := Rd.int_cons p1
 obtain ⟨p2, g3⟩ := Rd.cut (ds := [.int t.tm]) (vs := [v2]) (vs' := [v3]) g2 rfl
 obtain ⟨e2, _⟩ := Rd.int_cons p2
 have p3 := g3
 obtain ⟨A3, n3, c3, e3, _⟩ := Rd.mrks p3
 subst e0
 subst e1
 subst e2
 subst e3
 exact ⟨A3, n3, c3, rfl, rfl, rfl, rfl, p3⟩
theorem Ow.headT {w : World} {t : HeadM} {v0 v1 v2 v3 : Value} {fp : List Nat} (h : Ow w t.cells [v0, v1, v2, v3] fp) : ∃ f3, fp = f3 ++ ([]) ∧ Ow w ([mrkD t.seen]) [v3] f3 := by
 have g0 : Ow w ([.int t.num] ++ ([.int t.base] ++ ([.int t.tm] ++ ([mrkD t.seen] ++ ([]))))) [v0, v1, v2, v3] fp := h
 obtain ⟨_, g1⟩ := Ow.int_cons g0
 obtain ⟨_, g2⟩ := Ow.int_cons g1
 obtain ⟨_, g3⟩ := Ow.int_cons g2
 obtain ⟨f3, r3, rfl, o3, g4⟩ := Ow.cut (ds := [mrkD t.seen]) (vs := [v3]) (vs' := []) g3 rfl
 have gz := Ow.nil_foot g4
 subst gz
 exact ⟨f3, rfl, o3⟩
theorem head_n9 (t : HeadM) : t.n ≤ 9 * t.sz := by
 have h0 : mrkN t.seen ≤ 9 * (mrkSz t.seen) := (Nat.le_trans (mrkN_le t.seen) (Nat.mul_le_mul_right _ (by decide)))
 show mrkN t.seen ≤ 9 * (mrkSz t.seen)
 omega
theorem head_n_le (t : HeadM) (h : t.sz ≤ 1048577) : t.n ≤ 9437193 := by
 have := head_n9 t
 omega
set_option maxHeartbeats 6400000 in
theorem toHead_made (v0 v1 v2 v3 : Value) (t : HeadM) (w : World) (h : Rd w w.heap.size t.cells [v0, v1, v2, v3]) (hs : t.sz ≤ 1048576) : Calls Tryz.prog 33 #[.agg #[v0, v1, v2, v3]] w (MadeHead w t) := by
 obtain ⟨Aa3, na3, ca3, rfl, rfl, rfl, rfl, hr3⟩ := h.headT
 have S := Sep.nil w w.heap.size
 have c := Below.refl w.heap.size w
 have hz3 : mrkSz t.seen ≤ 1048576 := by unfold HeadM.sz at hs; omega
 replace S := S.boxAt c.size (w.heap.size) rfl #[.int .i64 t.num, .int .i64 t.base, .int .i64 t.tm, .slice Aa3 na3 ca3] 69
 replace c := al c S
 replace S := S.boxAt c.size (w.heap.size + 1) (by simp) #[.int .i64 0, .int .i64 0, .int .i64 0, .slice none 0 0] 45
 replace c := al c S
 replace S := S.boxAt c.size (w.heap.size + 1 + 1) (by simp) #[.int .i64 t.num, .int .i64 t.base, .int .i64 t.tm, .slice none 0 0] 45
 replace c := al c S
 go_enter Tryz.func33, Tryz.ntmps33
 go_wp2_with fail
 generalize ((w.alloc (.cells #[.int .i64 t.num, .int .i64 t.base, .int .i64 t.tm, .slice Aa3 na3 ca3] 69)).alloc (.cells #[.int .i64 0, .int .i64 0, .int .i64 0, .slice none 0 0] 45)).alloc (.cells #[.int .i64 t.num, .int .i64 t.base, .int .i64 t.tm, .slice none 0 0] 45) = w1 at *
 refine (toMarkS_made _ _ _ t.seen _ ((hr3.keep c).up c.size) hz3).mono ?_
 rintro e w2 ⟨Au3, nu3, cu3, rfl, o, b⟩
 obtain ⟨fp_u3, S'⟩ := S.has b o c.size
 replace c := c.trans (b.mono c.size)
 clear S; have S := S'; clear S' o b
 have f0 := lk S 1 3 rfl rfl
 have f1 := (S.at_ 1 rfl).free 3
 have f2 := lk S 1 0 rfl rfl
 have f3 := lk S 1 1 rfl rfl
 have f4 := lk S 1 2 rfl rfl
 have f5 := lk S 2 0 rfl rfl
 have f6 := (S.at_ 2 rfl).free 0
 have f7 := lk S 2 1 rfl rfl
 have f8 := (S.at_ 2 rfl).free 1
 have f9 := lk S 2 2 rfl rfl
 have f10 := (S.at_ 2 rfl).free 2
 have f11 := lk S 2 3 rfl rfl
 have f12 := (S.at_ 2 rfl).free 3
 replace S := S.put 1 rfl 3 (.slice Au3 nu3 cu3)
 replace c := st c S (by omega)
 replace S := S.put 2 rfl 0 (.int .i64 t.num)
 replace c := st c S (by omega)
 replace S := S.put 2 rfl 1 (.int .i64 t.base)
 replace c := st c S (by omega)
 replace S := S.put 2 rfl 2 (.int .i64 t.tm)
 replace c := st c S (by omega)
 replace S := S.put 2 rfl 3 (.slice Au3 nu3 cu3)
 replace c := st c S (by omega)
 have hzz := S.nodup
 have S2 := (S.sub ((.cons_cons _ (List.nil_sublist _)))).of_perm (is' := [.own ([mrkD t.seen]) [.slice Au3 nu3 cu3] fp_u3]) (by exact List.Perm.refl _)
 have H0 : Has _ w.heap.size t.cells [.int .i64 t.num, .int .i64 t.base, .int .i64 t.tm, .slice Au3 nu3 cu3] := ⟨fp_u3 ++ ([]), (.int (.int (.int (Ow.append (S.own_ 0 rfl) .nil)))), S2.nodup, S2.ge⟩
 have H := jd H0
 have C := jd c
 clear S S2 H0 hzz c h hr3
 go_wp2
 exact bodyPost_ret (v := .agg #[.int .i64 t.num, .int .i64 t.base, .int .i64 t.tm, .slice Au3 nu3 cu3]) (by simp [results, Tryz.results33, go_sem, f5, f7, f9, f11]) rfl ⟨_, _, _, _, _, _, rfl, H.out, C.out⟩
set_option maxHeartbeats 6400000 in
theorem eqHead_yes (v0 v1 v2 v3 u0 u1 u2 u3 : Value) (B B' : Nat) (t : HeadM) (w : World) (h : Rd w B t.cells [v0, v1, v2, v3]) (h' : Rd w B' t.cells [u0, u1, u2, u3]) (hB : B ≤ w.heap.size) (hB' : B' ≤ w.heap.size) (hs : t.sz ≤ 1048577) :
    Calls Tryz.prog 37 #[.agg #[v0, v1, v2, v3], .agg #[u0, u1, u2, u3]] w fun e w' => e = .returned (.bool true) ∧ Below w.heap.size w w' := by
 obtain ⟨Aa3, na3, ca3, rfl, rfl, rfl, rfl, hr3⟩ := h.headT
 obtain ⟨Ab3, nb3, cb3, rfl, rfl, rfl, rfl, kr3⟩ := h'.headT
 have S := Sep.nil w w.heap.size
 have c := Below.refl w.heap.size w
 have hz3 : mrkSz t.seen ≤ 1048577 := by unfold HeadM.sz at hs; omega
 replace S := S.boxAt c.size (w.heap.size) rfl #[.int .i64 t.num, .int .i64 t.base, .int .i64 t.tm, .slice Aa3 na3 ca3] 45
 replace c := al c S
 replace S := S.boxAt c.size (w.heap.size + 1) (by simp) #[.int .i64 t.num, .int .i64 t.base, .int .i64 t.tm, .slice Ab3 nb3 cb3] 45
 replace c := al c S
 go_enter Tryz.func37, Tryz.ntmps37
 go_wp2_with fail
 generalize (w.alloc (.cells #[.int .i64 t.num, .int .i64 t.base, .int .i64 t.tm, .slice Aa3 na3 ca3] 45)).alloc (.cells #[.int .i64 t.num, .int .i64 t.base, .int .i64 t.tm, .slice Ab3 nb3 cb3] 45) = w1 at *
 refine (eqMarkS_yes _ _ _ _ _ _ _ _ t.seen _ (hr3.keep (c.mono hB)) (kr3.keep (c.mono hB')) (Nat.le_trans hB c.size) (Nat.le_trans hB' c.size) hz3).mono ?_
 rintro e w2 ⟨rfl, b⟩
 replace c := c.trans (b.mono c.size)
 replace S := S.keep b
 clear b
 have C := jd c
 clear S c h h' hr3 kr3
 go_wp2
 go_ret
 exact ⟨rfl, C.out⟩
set_option maxHeartbeats 6400000 in
theorem markHead_any (v0 v1 v2 v3 : Value) (t : HeadM) (fp : List Nat) (w : World) (o : Ow w t.cells [v0, v1, v2, v3] fp) (hnd : fp.Nodup) (hs : t.sz ≤ 1048577) (k : Int) (k0 : 0 ≤ k) (k1 : k ≤ 90000000000) :
    Calls Tryz.prog 39 #[.agg #[v0, v1, v2, v3], .int .i64 k] w fun e w' => ∃ t', e = .returned (.int .i64 (k + (t.n : Int))) ∧ Ow w' t'.cells [v0, v1, v2, v3] fp ∧ Touch fp w w' ∧ MarkedHead t' k ∧ t'.n = t.n ∧ t'.sz = t.sz := by
 obtain ⟨Aa3, na3, ca3, rfl, rfl, rfl, rfl, _hr3⟩ := o.rd.headT
 have hz3 : mrkSz t.seen ≤ 1048577 := by unfold HeadM.sz at hs; omega
 have h9 := head_n_le t hs
 have hna : t.n = mrkN t.seen := rfl
 obtain ⟨f3, rfl, o3⟩ := Ow.headT o
 have n0 := hnd
 have n1 := (List.nodup_append.1 n0).2.1
 have S := Sep.nil w 0
 replace S := S.addOw o3 n0
 clear o o3 n0 n1
 have T := Touch.of_below ((Below.refl _ w).alloc (Nat.le_refl _) (.cells #[.int .i64 t.num, .int .i64 t.base, .int .i64 t.tm, .slice Aa3 na3 ca3] 45)) (f3 ++ ([]))
 replace S := S.boxAt (Nat.zero_le _) w.heap.size rfl #[.int .i64 t.num, .int .i64 t.base, .int .i64 t.tm, .slice Aa3 na3 ca3] 45
 go_enter Tryz.func39, Tryz.ntmps39
 go_wp2_with fail
 generalize w.alloc (.cells #[.int .i64 t.num, .int .i64 t.base, .int .i64 t.tm, .slice Aa3 na3 ca3] 45) = w1 at *
 refine (markMarkS_any _ _ _ t.seen f3 _ (S.own_ 1 rfl) (S.nodup_own 1 rfl) hz3 _ (by omega) (by omega)).mono ?_
 rintro e w2 ⟨d3, rfl, o, t', m3, en3, es3⟩
 replace T := T.trans (t'.mono (fun p hp => by simp [hp]))
 replace S := S.mark 1 rfl t' o
 clear o t'
 have M3 := jd m3
 clear m3
 have R0 : Ow _ (HeadM.cells (⟨t.num, t.base, t.tm, d3⟩)) [.int .i64 t.num, .int .i64 t.base, .int .i64 t.tm, .slice Aa3 na3 ca3] (f3 ++ ([])) := (.int (.int (.int (Ow.append (S.own_ 1 rfl) .nil))))
 have R := jd R0
 have TT := jd T
 have E := jd (And.intro hna (And.intro (en3) (es3)))
 clear S T R0 hna en3 es3
 go_wp2
 go_ret
 obtain ⟨hna, en, es⟩ := E.out
 obtain en3 := en
 obtain es3 := es
 refine ⟨⟨t.num, t.base, t.tm, d3⟩, ?_, R.out, TT.out, ?_, ?_, ?_⟩
 · refine congrArg Ending.returned (congrArg (Value.int .i64) ?_)
   omega
 · show MarkedMarkS d3 (k)
   exact M3.out
 · show mrkN d3 = mrkN t.seen
   omega
 · show mrkSz d3 = mrkSz t.seen
   omega
set_option maxHeartbeats 6400000 in
theorem szHead_any (v0 v1 v2 v3 : Value) (t : HeadM) (B : Nat) (L : Int) (w : World) (h : Rd w B t.cells [v0, v1, v2, v3]) (hB : B ≤ w.heap.size) (l0 : 0 ≤ L) (l1 : L ≤ 1048576) :
    Calls Tryz.prog 30 #[.agg #[v0, v1, v2, v3], .int .i64 L] w fun e w' => e = .returned (.int .i64 (left L t.sz)) ∧ Below w.heap.size w w' := by
 obtain ⟨Aa3, na3, ca3, rfl, rfl, rfl, rfl, hr3⟩ := h.headT
 have HD := jd (show t.sz = mrkSz t.seen from rfl)
 have S := Sep.nil w w.heap.size
 have c := Below.refl w.heap.size w
 replace S := S.boxAt c.size (w.heap.size) rfl #[.int .i64 t.num, .int .i64 t.base, .int .i64 t.tm, .slice Aa3 na3 ca3] 69
 replace c := al c S
 go_enter Tryz.func30, Tryz.ntmps30
 go_wp2_with fail
 generalize w.alloc (.cells #[.int .i64 t.num, .int .i64 t.base, .int .i64 t.tm, .slice Aa3 na3 ca3] 69) = w1 at *
 refine (szMarkS_any _ _ _ t.seen _ _ _ (hr3.keep (c.mono hB)) (Nat.le_trans hB c.size) (by omega) (by omega)).mono ?_
 rintro e w2 ⟨rfl, b⟩
 replace c := c.trans (b.mono c.size)
 replace S := S.keep b
 clear b
 obtain ⟨s3, hsv3⟩ : ∃ q, q = mrkSz t.seen := ⟨_, rfl⟩
 rw [← hsv3]
 have HV3 := jd hsv3
 clear hsv3
 by_cases hc3 : (s3 : Int) ≤ L
 case neg =>
  rw [left, if_neg (by omega)]
  have C := jd c
  clear S c h hr3
  go_wp2
  go_ret
  refine ⟨ret_i64 ?_, C.out⟩
  rw [left, HD.out, ← HV3.out, if_neg (by omega)]
 rw [left, if_pos (by omega)]
 have q3 : ¬ (L - (s3 : Int) < 0) := by omega
 have C := jd c
 clear S c h hr3
 go_wp2
 go_ret
 refine ⟨ret_i64 ?_, C.out⟩
 rw [left, HD.out, ← HV3.out, if_pos (by omega)]
end Go.Proofs.YtmjifhjhialcbaaGreat

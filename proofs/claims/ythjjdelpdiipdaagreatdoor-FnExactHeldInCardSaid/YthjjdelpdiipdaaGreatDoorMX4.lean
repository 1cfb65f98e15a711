/- Parts of my texts: Mark. -/
import Derived.Test.YthjjdelpdiipdaaGreatDoorMX1
import Derived.RegionTactic
namespace Go.Proofs.YthjjdelpdiipdaaGreatDoor
set_option maxRecDepth 100000
set_option linter.unusedVariables false
open Go.RowKit
structure MarkM where
 mc : Int
 ms : Int
 mi : Int
def mrkC (x : MarkM) : List Dat := [.int x.mc, .int x.ms, .int x.mi]
theorem mrkC_len (x : MarkM) : (mrkC x).length = 3 := rfl
def mrkD (l : List MarkM) : Dat := lst 114 3 mrkC l
def mrkSz (l : List MarkM) : Nat := l.length
def mrkNs (x : MarkM) : List Int := x.mc :: x.ms :: x.mi :: []
def mrkN (l : List MarkM) : Nat := nums mrkNs l l.length
def MarkedMarkS (l : List MarkM) (k : Int) : Prop := l.flatMap mrkNs = upFrom k (l.flatMap mrkNs).length
def MadeMarkS (w : World) (l : List MarkM) (e : Ending) (w' : World) : Prop :=
 ∃ A n c, e = .returned (.slice A n c) ∧ Has w' w.heap.size [mrkD l] [.slice A n c] ∧ Below w.heap.size w w'
theorem infoMark : (Tryz.prog.info? 114).map (fun i => (i.zero, i.size, i.bytes)) = some (some (.agg #[.int .i64 0, .int .i64 0, .int .i64 0]), 3, 24) := by kernel_rfl
theorem ow_zero_mrk (w : World) : Ow w (mrkC (⟨0, 0, 0⟩ : MarkM)) [.int .i64 0, .int .i64 0, .int .i64 0] [] := .int (.int (.int (.nil)))
theorem Rd.mrks {w : World} {B : Nat} {v0 : Value} {l : List MarkM} (h : Rd w B [mrkD l] [v0]) : ∃ A n c, v0 = .slice A n c ∧ l.length = n ∧ n ≤ c ∧ c ≤ maxLen ∧
    (0 < n → ∃ b off, A = some ⟨b, off, none⟩ ∧ b < B ∧ ∀ j (hj : j < l.length), w.cell? ⟨b, off + j * 3, none⟩ = some (.int .i64 l[j].mc) ∧ w.cell? ⟨b, off + j * 3 + 1, none⟩ = some (.int .i64 l[j].ms) ∧ w.cell? ⟨b, off + j * 3 + 2, none⟩ = some (.int .i64 l[j].mi)) := by
 obtain ⟨A, n, c, rfl, hl, h1, h2, h3⟩ := Rd.lst (k := 3) mrkC_len (by decide) h
 refine ⟨A, n, c, rfl, hl, h1, h2, fun hn => ?_⟩
 obtain ⟨b, off, rfl, hb, hc⟩ := h3 hn
 refine ⟨b, off, rfl, hb, fun j hj => ?_⟩
 obtain ⟨es, he, hr, hcell⟩ := hc j hj
 match es, he with
 | [u0, u1, u2], _ =>
  have h0' := hcell 0 (by omega)
  have h1' := hcell 1 (by omega)
  have h2' := hcell 2 (by omega)
  simp only [Nat.add_zero] at h0'
  have g0 : Rd w B (mrkC l[j]) [u0, u1, u2] := hr
  obtain ⟨e0, g1⟩ := Rd.int_cons g0
  obtain ⟨e1, g2⟩ := Rd.int_cons g1
  obtain ⟨e2, g3⟩ := Rd.int_cons g2
  subst e0
  subst e1
  subst e2
  exact ⟨h0', h1', h2'⟩
theorem Ow.mrk {w : World} {x : MarkM} {y0 y1 y2 : Value} {f2 : List Nat} (h : Ow w (mrkC x) [y0, y1, y2] f2) : y0 = .int .i64 x.mc ∧ y1 = .int .i64 x.ms ∧ y2 = .int .i64 x.mi ∧ f2 = [] := by
 have g0 : Ow w (mrkC x) [y0, y1, y2] f2 := h
 obtain ⟨e0, g1⟩ := Ow.int_cons g0
 obtain ⟨e1, g2⟩ := Ow.int_cons g1
 obtain ⟨e2, g3⟩ := Ow.int_cons g2
 exact ⟨e0, e1, e2, Ow.nil_foot g3⟩
theorem mrkN_eq (l : List MarkM) : (l.map (fun r => (mrkNs r).length)).sum = 3 * l.length := by
 induction l with
 | nil => rfl
 | cons x l ih =>
  rw [List.map_cons, List.sum_cons, ih, List.length_cons]
  have h1 : (mrkNs x).length = 3 := rfl
  omega
theorem mrkN_le (l : List MarkM) : mrkN l ≤ 3 * mrkSz l := by
 unfold mrkN nums
 rw [pre_all, mrkN_eq]
 unfold mrkSz
 omega
theorem mrkSz_map {l l' : List MarkM} (h : l'.map (fun r => (mrkNs r).length) = l.map (fun r => (mrkNs r).length)) : mrkSz l' = mrkSz l := by
 have h1 := len_of_map h
 exact h1
set_option maxHeartbeats 1600000 in
theorem toMark_any (x0 x1 x2 : Int) (w : World) :
    Calls Tryz.prog 77 #[.agg #[.int .i64 x0, .int .i64 x1, .int .i64 x2]] w fun e w' => e = .returned (.agg #[.int .i64 x0, .int .i64 x1, .int .i64 x2]) ∧ Below w.heap.size w w' := by
 have C := jd ((((Below.refl w.heap.size w).alloc (Nat.le_refl _) (.cells #[.int .i64 x0, .int .i64 x1, .int .i64 x2] 122)).alloc (by simp) (.cells #[.int .i64 x0, .int .i64 x1, .int .i64 x2] 114)).alloc (by simp; omega) (.cells #[.int .i64 x0, .int .i64 x1, .int .i64 x2] 114))
 go_enter Tryz.func77, Tryz.ntmps77
 go_wp2
 exact bodyPost_ret (v := .agg #[.int .i64 x0, .int .i64 x1, .int .i64 x2]) (by simp [results, Tryz.results77, go_sem]) rfl ⟨rfl, C.out⟩
set_option maxHeartbeats 3200000 in
theorem toMarkS_made (A : Option Addr) (n c : Nat) (l : List MarkM) (w : World) (h : Rd w w.heap.size [mrkD l] [.slice A n c]) (hs : mrkSz l ≤ 1048576) :
    Calls Tryz.prog 41 #[.slice A n c] w (MadeMarkS w l) := by
 obtain ⟨A', n', c', e, hl, hnc, hcm, hel⟩ := h.mrks
 injection e with e1 e2 e3
 subst e1 e2 e3
 have hn : n ≤ 1048576 := by unfold mrkSz at hs; omega
 have HS := jd hs
 have HL := jd hl
 have hmk := run_make_k (P := Tryz.prog) 44 114 (.agg #[.int .i64 0, .int .i64 0, .int .i64 0]) #[.int .i64 0, .int .i64 0, .int .i64 0] 3 24 Tryz.underlying44 infoMark rfl .i64 .i64 n (by omega) (by omega)
 have O0 := jd (ow_made (w := w) (e := 114) (f := mrkC) (x0 := (⟨0, 0, 0⟩ : MarkM)) (zc := #[.int .i64 0, .int .i64 0, .int .i64 0]) (k := 3) rfl (by decide) n (by simp only [maxLen]; omega) ow_zero_mrk)
 have B0 := jd ((Below.refl w.heap.size w).alloc (Nat.le_refl _) (.cells (madeCells #[.int .i64 0, .int .i64 0, .int .i64 0] (n * 3)) 114))
 clear hl hs h
 go_enter Tryz.func41, Tryz.ntmps41
 go_wp2
 go_loopw [4] (fun i wr => ∃ (j : Nat) (fp : List Nat), j ≤ n ∧ i = .int .i64 (j : Int) ∧ Ow wr [mrkD (l.take j ++ List.replicate (n - j) (⟨0, 0, 0⟩ : MarkM))] [.slice (some ⟨w.heap.size, 0, none⟩) n n] fp ∧ fp.Nodup ∧ (∀ p ∈ fp, w.heap.size ≤ p) ∧ Below w.heap.size w wr) (fun i _ => n - (intOf i).toNat)
 case atStart => exact ⟨0, _, Nat.zero_le _, rfl, O0.out, by simp, by simp, B0.out⟩
 case round =>
  obtain ⟨j, fp, hj, rfl, hown, hnd, hge, hbel⟩ := hrel
  clear hmk O0 B0
  by_cases hlt : j < n
  · obtain ⟨b, off, rfl, hb, hc⟩ := hel (by omega)
    have hjl : j < l.length := by have := HL.out; omega
    obtain ⟨hc0, hc1, hc2⟩ := hc j hjl
    have cs0 := (hbel.cell (p := ⟨b, off + j * 3, none⟩) hb).trans hc0
    have cs1 := (hbel.cell (p := ⟨b, off + j * 3 + 1, none⟩) hb).trans hc1
    have cs2 := (hbel.cell (p := ⟨b, off + j * 3 + 2, none⟩) hb).trans hc2
    obtain ⟨x0, hx0⟩ : ∃ x0, x0 = l[j].mc := ⟨_, rfl⟩
    obtain ⟨x1, hx1⟩ : ∃ x1, x1 = l[j].ms := ⟨_, rfl⟩
    obtain ⟨x2, hx2⟩ : ∃ x2, x2 = l[j].mi := ⟨_, rfl⟩
    rw [← hx0] at cs0
    rw [← hx1] at cs1
    rw [← hx2] at cs2
    have HX := jd (show l[j] = ⟨x0, x1, x2⟩ by rw [hx0, hx1, hx2])
    clear hx0 hx1 hx2 hc hc0 hc1 hc2
    go_wp2_with fail
    refine (toMark_any x0 x1 x2 _).mono ?_
    rintro e w1 ⟨rfl, b1⟩
    have hown1 := hown.keep b1
    have hl2 : (l.take j ++ List.replicate (n - j) (⟨0, 0, 0⟩ : MarkM)).length = n := by simp; have := HL.out; omega
    obtain ⟨es, he, hcell, hfr⟩ := Ow.slots (k := 3) mrkC_len (by decide) hown1 (j := j) (by omega)
    have ck0 := hcell 0 (by decide)
    have ck1 := hcell 1 (by decide)
    have ck2 := hcell 2 (by decide)
    rw [Nat.add_zero] at ck0
    match es, he with
    | [y0, y1, y2], _ =>
    have ck0' : w1.cell? ⟨w.heap.size, j * 3, none⟩ = some y0 := ck0
    have ck1' : w1.cell? ⟨w.heap.size, j * 3 + 1, none⟩ = some y1 := ck1
    have ck2' : w1.cell? ⟨w.heap.size, j * 3 + 2, none⟩ = some y2 := ck2
    have fk0 := hfr (j * 3)
    have fk1 := hfr (j * 3 + 1)
    have fk2 := hfr (j * 3 + 2)
    have ho : Ow w1 (mrkC ⟨x0, x1, x2⟩) [.int .i64 x0, .int .i64 x1, .int .i64 x2] [] := .int (.int (.int (.nil)))
    have hfresh : ∀ p ∈ ([] : List Nat), wr.heap.size ≤ p := fun p hp => by cases hp
    have hold := hown.lt
    obtain ⟨ht, fp', hfin, hnd', hsub⟩ := Ow.store (k := 3) mrkC_len (by decide) hown1 hnd (j := j) (x := ⟨x0, x1, x2⟩) (by omega) ho List.nodup_nil (fun p hp hm => by have := hfresh p hp; have := hold p hm; omega)
    have z := hbel.size
    have R1 := jd (show Ow (puts w1 w.heap.size (j * 3) [.int .i64 x0, .int .i64 x1, .int .i64 x2]) [mrkD (l.take (j + 1) ++ List.replicate (n - (j + 1)) (⟨0, 0, 0⟩ : MarkM))] [.slice (some ⟨w.heap.size, 0, none⟩) n n] fp' by
     have h1 := fill_step (x0 := (⟨0, 0, 0⟩ : MarkM)) HL.out hjl
     rw [HX.out] at h1
     rw [← h1]
     exact hfin)
    have R2 := jd (show ∀ p ∈ fp', w.heap.size ≤ p from fun p hp => by
     rcases hsub p hp with h | h
     · exact hge p h
     · have := hfresh p h; omega)
    have b01 := hbel.trans (b1.mono hbel.size)
    have R3 := jd (show Below w.heap.size w (puts w1 w.heap.size (j * 3) [.int .i64 x0, .int .i64 x1, .int .i64 x2]) from b01.trans (ht.below (by simp) b01.size))
    have R4 := jd hnd'
    clear hown hown1 hfin hnd' hsub ht ho b1 b01 hcell hfr ck0 ck1 ck2 hbel hl2 hfresh hold
    go_wp2
    go_roundw
    case rel => exact ⟨j + 1, fp', by omega, by go_num, R1.out, R4.out, R2.out, R3.out⟩
    case measure => simp [intOf]; omega
  · go_wp2
    go_ret
    have e : n - j = 0 := by omega
    rw [e, List.replicate_zero, List.append_nil, List.take_of_length_le (by have := HL.out; omega)] at hown
    exact ⟨_, _, _, rfl, ⟨fp, hown, hnd, hge⟩, hbel⟩
set_option maxHeartbeats 1600000 in
theorem eqMark_one (x0 x1 x2 : Int) (w : World) :
    Calls Tryz.prog 89 #[.agg #[.int .i64 x0, .int .i64 x1, .int .i64 x2], .agg #[.int .i64 x0, .int .i64 x1, .int .i64 x2]] w fun e w' => e = .returned (.bool true) ∧ Below w.heap.size w w' := by
 have b0 : Below w.heap.size w ((w.alloc (.cells #[.int .i64 x0, .int .i64 x1, .int .i64 x2] 114)).alloc (.cells #[.int .i64 x0, .int .i64 x1, .int .i64 x2] 114)) :=
  ((Below.refl _ w).alloc (Nat.le_refl _) _).alloc (by simp) _
 have B0 := jd b0
 clear b0
 go_enter Tryz.func89, Tryz.ntmps89
 go_wp2
 go_ret
 exact ⟨rfl, B0.out⟩
set_option maxHeartbeats 3200000 in
theorem eqMarkS_yes (A A' : Option Addr) (n n' c c' B B' : Nat) (l : List MarkM) (w : World) (h : Rd w B [mrkD l] [.slice A n c]) (h' : Rd w B' [mrkD l] [.slice A' n' c']) (hB : B ≤ w.heap.size) (hB' : B' ≤ w.heap.size) (hs : mrkSz l ≤ 1048577) :
    Calls Tryz.prog 47 #[.slice A n c, .slice A' n' c'] w fun e w' => e = .returned (.bool true) ∧ Below w.heap.size w w' := by
 obtain ⟨_, _, _, e, hl, _, _, hel⟩ := h.mrks
 injection e with e1 e2 e3
 subst e1 e2 e3
 obtain ⟨_, _, _, e, hl', _, _, hel'⟩ := h'.mrks
 injection e with e1 e2 e3
 subst e1 e2 e3
 obtain rfl : n = n' := by rw [← hl, hl']
 have hn : n ≤ 1048577 := by unfold mrkSz at hs; omega
 have HS := jd hs
 have HL := jd hl
 clear hl hl' hs h h'
 go_enter Tryz.func47, Tryz.ntmps47
 go_wp2
 go_loopw [5] (fun i wr => ∃ j : Nat, j ≤ n ∧ i = .int .i64 (j : Int) ∧ Below w.heap.size w wr) (fun i _ => n - (intOf i).toNat)
 case atStart => exact ⟨0, Nat.zero_le _, rfl, Below.refl _ _⟩
 case round =>
  obtain ⟨j, hj, rfl, hbel⟩ := hrel
  by_cases hlt : j < n
  · obtain ⟨b, off, rfl, hb, hc⟩ := hel (by omega)
    obtain ⟨b', off', rfl, hb', hc'⟩ := hel' (by omega)
    have hjl : j < l.length := by have := HL.out; omega
    obtain ⟨hc0, hc1, hc2⟩ := hc j hjl
    obtain ⟨hd0, hd1, hd2⟩ := hc' j hjl
    have cs0 := (hbel.cell (p := ⟨b, off + j * 3, none⟩) (show b < _ by omega)).trans hc0
    have cs1 := (hbel.cell (p := ⟨b, off + j * 3 + 1, none⟩) (show b < _ by omega)).trans hc1
    have cs2 := (hbel.cell (p := ⟨b, off + j * 3 + 2, none⟩) (show b < _ by omega)).trans hc2
    have ct0 := (hbel.cell (p := ⟨b', off' + j * 3, none⟩) (show b' < _ by omega)).trans hd0
    have ct1 := (hbel.cell (p := ⟨b', off' + j * 3 + 1, none⟩) (show b' < _ by omega)).trans hd1
    have ct2 := (hbel.cell (p := ⟨b', off' + j * 3 + 2, none⟩) (show b' < _ by omega)).trans hd2
    generalize l[j].mc = x0 at *
    generalize l[j].ms = x1 at *
    generalize l[j].mi = x2 at *
    have i0 : (0 : Int) ≤ (j : Int) := by omega
    have i1 : (j : Int) < (n : Int) := by omega
    have z := hbel.size
    have HB := jd hbel
    clear hc hc' hc0 hd0 hc1 hd1 hc2 hd2 hel hel' hbel
    go_wp2_with fail
    go_region_with (first
     | (go_at_call 89
        refine (eqMark_one x0 x1 x2 _).mono ?_
        rintro e w1 ⟨rfl, b1⟩
        have BB := jd (HB.out.drew.trans (b1.mono (by show w.heap.size ≤ wr.heap.size; omega)))))
    all_goals
     go_wp2
     go_roundw
     case rel => exact ⟨j + 1, by omega, by go_num, BB.out⟩
     case measure => simp [intOf]; omega
  · go_wp2
    go_ret
    exact ⟨rfl, hbel⟩
theorem szMarkS_any (A : Option Addr) (n c : Nat) (l : List MarkM) (B : Nat) (L : Int) (w : World) (h : Rd w B [mrkD l] [.slice A n c]) (_hB : B ≤ w.heap.size) (l0 : 0 ≤ L) (l1 : L ≤ 1048576) :
    Calls Tryz.prog 26 #[.slice A n c, .int .i64 L] w fun e w' => e = .returned (.int .i64 (left L (mrkSz l))) ∧ Below w.heap.size w w' := by
 obtain ⟨_, _, _, e, hl, h1, h2, _⟩ := h.mrks
 injection e with e1 e2 e3
 subst e1 e2 e3
 have hm : n ≤ maxLen := Nat.le_trans h1 h2
 unfold maxLen at hm
 have e : mrkSz l = n := hl
 rw [e]
 clear h hl e
 by_cases h : (n : Int) ≤ L
 · rw [left, if_pos h]
   go_enter Tryz.func26, Tryz.ntmps26
   go_wp2
   go_ret
   exact ⟨rfl, Below.refl _ _⟩
 · rw [left, if_neg h]
   go_enter Tryz.func26, Tryz.ntmps26
   go_wp2
   go_ret
   exact ⟨rfl, Below.refl _ _⟩
set_option maxHeartbeats 6400000 in
theorem markMarkS_any (A : Option Addr) (n c : Nat) (l : List MarkM) (fp : List Nat) (w : World) (o : Ow w [mrkD l] [.slice A n c] fp) (hnd : fp.Nodup) (hs : mrkSz l ≤ 1048577) (k : Int) (k0 : 0 ≤ k) (k1 : k ≤ 100000000000) :
    Calls Tryz.prog 55 #[.slice A n c, .int .i64 k] w fun e w' => ∃ l', e = .returned (.int .i64 (k + (mrkN l : Int))) ∧ Ow w' [mrkD l'] [.slice A n c] fp ∧ Touch fp w w' ∧ MarkedMarkS l' k ∧ mrkN l' = mrkN l ∧ mrkSz l' = mrkSz l := by
 suffices H : Calls Tryz.prog 55 #[.slice A n c, .int .i64 k] w fun e w' => ∃ l', e = .returned (.int .i64 (k + (nums mrkNs l l.length : Int))) ∧ Ow w' [mrkD l'] [.slice A n c] fp ∧ Touch fp w w' ∧ l'.map (fun r => (mrkNs r).length) = l.map (fun r => (mrkNs r).length) ∧ l'.flatMap mrkNs = upFrom k (nums mrkNs l l.length) by
  refine H.mono ?_
  rintro e w' ⟨l', rfl, o', t', h1, h2⟩
  have h3 := len_of_map h1
  refine ⟨l', rfl, o', t', ?_, ?_, mrkSz_map h1⟩
  · show l'.flatMap mrkNs = upFrom k (l'.flatMap mrkNs).length
    rw [h2, upFrom_length]
  · show nums mrkNs l' l'.length = nums mrkNs l l.length
    rw [h3]
    exact nums_map h1 _
 obtain ⟨A', n', c', e, hl, _, _⟩ := o.rd.mrks
 injection e with e1 e2 e3
 subst e1 e2 e3
 have HL := jd hl
 have hn : n ≤ 1048577 := by unfold mrkSz at hs; omega
 have HS := jd hs
 have O := jd o
 have HN := jd hnd
 clear o hs hnd hl
 go_enter Tryz.func55, Tryz.ntmps55
 go_wp2
 go_loopw [1, 5] (fun q i wr => ∃ (j : Nat) (l' : List MarkM), j ≤ n ∧ i = .int .i64 (j : Int) ∧ q = .int .i64 (k + (nums mrkNs l j : Int)) ∧ l'.map (fun r => (mrkNs r).length) = l.map (fun r => (mrkNs r).length) ∧ (l'.take j).flatMap mrkNs = upFrom k (nums mrkNs l j) ∧ Ow wr [mrkD l'] [.slice A n c] fp ∧ Touch fp w wr) (fun _ i _ => n - (intOf i).toNat)
 case atStart => exact ⟨0, l, Nat.zero_le _, rfl, by simp [nums, pre_zero], rfl, by simp [nums, pre_zero, upFrom], O.out, Touch.refl _ _⟩
 case round =>
  obtain ⟨j, l', hj, rfl, rfl, hmap, hflat, hown, htch⟩ := hrel
  have hll : l'.length = l.length := by simpa using congrArg List.length hmap
  by_cases hlt : j < n
  · have hjl : j < l'.length := by have := HL.out; omega
    have hjl2 : j < l.length := by have := HL.out; omega
    have hlen0 : (mrkNs l'[j]).length = (mrkNs l[j]).length := by
     have h1 := congrArg (fun q => q[j]?) hmap
     simp [List.getElem?_eq_getElem hjl, List.getElem?_eq_getElem hjl2] at h1
     exact h1
    obtain ⟨g, d, es, f2, e, _, _, he, hcell, hfr, hel, hn2, hg2, hgf, hsub, _, _⟩ := Ow.elem (k := 3) mrkC_len (by decide) hown HN.out (j := j) hjl
    injection e with e e2 e3
    subst e e3
    match es, he with
    | [y0, y1, y2], _ =>
    obtain ⟨ey0, ey1, ey2, ef2⟩ := Ow.mrk hel
    subst ey0
    subst ey1
    subst ey2
    subst ef2
    have ck0 := hcell 0 (by decide)
    have ck1 := hcell 1 (by decide)
    have ck2 := hcell 2 (by decide)
    rw [Nat.add_zero] at ck0
    have cl0 : wr.cell? ⟨g, j * 3, none⟩ = some (.int .i64 l'[j].mc) := ck0
    have cl1 : wr.cell? ⟨g, j * 3 + 1, none⟩ = some (.int .i64 l'[j].ms) := ck1
    have cl2 : wr.cell? ⟨g, j * 3 + 2, none⟩ = some (.int .i64 l'[j].mi) := ck2
    have fk0 := hfr (j * 3)
    have fk1 := hfr (j * 3 + 1)
    have fk2 := hfr (j * 3 + 2)
    have hlen : 3 = (mrkNs l[j]).length := rfl
    have hnj : nums mrkNs l (j + 1) = nums mrkNs l j + 3 := by rw [hlen]; exact pre_succ hjl2
    have hb1 : nums mrkNs l j + 3 ≤ 3145731 := by
     rw [hlen]
     have h1 : nums mrkNs l j + (mrkNs l[j]).length ≤ (l.map (fun r => (mrkNs r).length)).sum := pre_at (g := fun r => (mrkNs r).length) hjl2
     have h2 := HS.out
     unfold mrkSz at h2
     have h3 := mrkN_eq l
     omega
    generalize hN : nums mrkNs l j = N at *
    obtain ⟨x0, hx0⟩ : ∃ x, x = l'[j].mc := ⟨_, rfl⟩
    obtain ⟨x1, hx1⟩ : ∃ x, x = l'[j].ms := ⟨_, rfl⟩
    obtain ⟨x2, hx2⟩ : ∃ x, x = l'[j].mi := ⟨_, rfl⟩
    rw [← hx0] at cl0
    rw [← hx1] at cl1
    rw [← hx2] at cl2
    have hlj : l'[j] = ⟨x0, x1, x2⟩ := by rw [hx0, hx1, hx2]
    obtain ⟨tg, hown2⟩ := Ow.storeFront (k := 3) mrkC_len (by decide) hown HN.out (j := j) hjl (x := ⟨k + (N : Int), k + (N : Int) + 1, k + (N : Int) + 1 + 1⟩) (xs := [x0, x1, x2]) (xs' := [k + (N : Int), k + (N : Int) + 1, k + (N : Int) + 1 + 1]) (rest := []) (by rw [hlj]; rfl) rfl rfl
    have t2 := htch.trans (tg.mono (fun p hp => by have : p = g := by simpa using hp
                                                   rw [this]; exact hgf))
    have R1 := jd hown2
    have R2 := jd t2
    have HJ := jd hnj
    have HM := jd hmap
    have HF := jd hflat
    have HE := jd hlen
    have HLL := jd hll
    have HNN := jd hN
    have HL0 := jd hlen0
    clear hmap hflat htch hsub hcell ck0 ck1 ck2 hel hown hown2 hfr hgf hlen hnj hN hll e2 tg t2 hlen0 hx0 hx1 hx2 hlj
    go_wp2
    go_roundw
    case rel =>
     refine ⟨j + 1, _, by omega, by go_num, by rw [HJ.out]; go_num, ?_, ?_, R1.out, R2.out⟩
     · rw [set_map hjl ?_]
       · exact HM.out
       · exact rfl
     · have h1 := nums_map HM.out j
       have h2 := flat_step (g := mrkNs) (l := l') (j := j) (k := k) (x := ⟨k + (N : Int), k + (N : Int) + 1, k + (N : Int) + 1 + 1⟩) hjl (by rw [h1, HNN.out]; exact HF.out) (by
        rw [h1, HNN.out]
        show [k + (N : Int), k + (N : Int) + 1, k + (N : Int) + 1 + 1] = upFrom (k + (N : Int)) 3
        simp only [upFrom_cons, upFrom_zero])
       rw [h2, h1, HNN.out, HJ.out]
       rfl
    case measure => simp [intOf]; omega
  · go_wp2
    go_ret
    have hjn : j = l.length := by have := HL.out; omega
    subst hjn
    refine ⟨l', rfl, hown, htch, hmap, ?_⟩
    rw [List.take_of_length_le (by omega)] at hflat
    exact hflat
end Go.Proofs.YthjjdelpdiipdaaGreatDoor

/- Parts of my texts: Owe EntM EntL. -/
import Derived.Test.YthjjdelpdiipdaaGreatDoorMX7
import Derived.Deep.MidRow
namespace Go.Proofs.YthjjdelpdiipdaaGreatDoor
set_option maxRecDepth 100000
set_option linter.unusedVariables false
open Go.RowKit
def oweC (x : AckM) : List Dat := [.int x.cl, .int x.sq, .int x.ix, .int x.last]
theorem oweC_len (x : AckM) : (oweC x).length = 4 := rfl
def oweD (l : List AckM) : Dat := lst 116 4 oweC l
def oweSz (l : List AckM) : Nat := l.length
def oweNs (x : AckM) : List Int := x.cl :: x.sq :: x.ix :: x.last :: []
def oweN (l : List AckM) : Nat := nums oweNs l l.length
def MarkedAckS (l : List AckM) (k : Int) : Prop := l.flatMap oweNs = upFrom k (l.flatMap oweNs).length
def MadeAckS (w : World) (l : List AckM) (e : Ending) (w' : World) : Prop :=
 ∃ A n c, e = .returned (.slice A n c) ∧ Has w' w.heap.size [oweD l] [.slice A n c] ∧ Below w.heap.size w w'
theorem infoAck : (Tryz.prog.info? 116).map (fun i => (i.zero, i.size, i.bytes)) = some (some (.agg #[.int .i64 0, .int .i64 0, .int .i64 0, .int .i64 0]), 4, 32) := by kernel_rfl
theorem ow_zero_owe (w : World) : Ow w (oweC (⟨0, 0, 0, 0⟩ : AckM)) [.int .i64 0, .int .i64 0, .int .i64 0, .int .i64 0] [] := .int (.int (.int (.int (.nil))))
theorem Rd.owes {w : World} {B : Nat} {v0 : Value} {l : List AckM} (h : Rd w B [oweD l] [v0]) : ∃ A n c, v0 = .slice A n c ∧ l.length = n ∧ n ≤ c ∧ c ≤ maxLen ∧
    (0 < n → ∃ b off, A = some ⟨b, off, none⟩ ∧ b < B ∧ ∀ j (hj : j < l.length), w.cell? ⟨b, off + j * 4, none⟩ = some (.int .i64 l[j].cl) ∧ w.cell? ⟨b, off + j * 4 + 1, none⟩ = some (.int .i64 l[j].sq) ∧ w.cell? ⟨b, off + j * 4 + 2, none⟩ = some (.int .i64 l[j].ix) ∧ w.cell? ⟨b, off + j * 4 + 3, none⟩ = some (.int .i64 l[j].last)) := by
 obtain ⟨A, n, c, rfl, hl, h1, h2, h3⟩ := Rd.lst (k := 4) oweC_len (by decide) h
 refine ⟨A, n, c, rfl, hl, h1, h2, fun hn => ?_⟩
 obtain ⟨b, off, rfl, hb, hc⟩ := h3 hn
 refine ⟨b, off, rfl, hb, fun j hj => ?_⟩
 obtain ⟨es, he, hr, hcell⟩ := hc j hj
 match es, he with
 | [u0, u1, u2, u3], _ =>
  have h0' := hcell 0 (by omega)
  have h1' := hcell 1 (by omega)
  have h2' := hcell 2 (by omega)
  have h3' := hcell 3 (by omega)
  simp only [Nat.add_zero] at h0'
  have g0 : Rd w B (oweC l[j]) [u0, u1, u2, u3] := hr
  obtain ⟨e0, g1⟩ := Rd.int_cons g0
  obtain ⟨e1, g2⟩ := Rd.int_cons g1
  obtain ⟨e2, g3⟩ := Rd.int_cons g2
  obtain ⟨e3, g4⟩ := Rd.int_cons g3
  subst e0
  subst e1
  subst e2
  subst e3
  exact ⟨h0', h1', h2', h3'⟩
theorem Ow.owe {w : World} {x : AckM} {y0 y1 y2 y3 : Value} {f2 : List Nat} (h : Ow w (oweC x) [y0, y1, y2, y3] f2) : y0 = .int .i64 x.cl ∧ y1 = .int .i64 x.sq ∧ y2 = .int .i64 x.ix ∧ y3 = .int .i64 x.last ∧ f2 = [] := by
 have g0 : Ow w (oweC x) [y0, y1, y2, y3] f2 := h
 obtain ⟨e0, g1⟩ := Ow.int_cons g0
 obtain ⟨e1, g2⟩ := Ow.int_cons g1
 obtain ⟨e2, g3⟩ := Ow.int_cons g2
 obtain ⟨e3, g4⟩ := Ow.int_cons g3
 exact ⟨e0, e1, e2, e3, Ow.nil_foot g4⟩
theorem oweN_eq (l : List AckM) : (l.map (fun r => (oweNs r).length)).sum = 4 * l.length := by
 induction l with
 | nil => rfl
 | cons x l ih =>
  rw [List.map_cons, List.sum_cons, ih, List.length_cons]
  have h1 : (oweNs x).length = 4 := rfl
  omega
theorem oweN_le (l : List AckM) : oweN l ≤ 4 * oweSz l := by
 unfold oweN nums
 rw [pre_all, oweN_eq]
 unfold oweSz
 omega
theorem oweSz_map {l l' : List AckM} (h : l'.map (fun r => (oweNs r).length) = l.map (fun r => (oweNs r).length)) : oweSz l' = oweSz l := by
 have h1 := len_of_map h
 exact h1
set_option maxHeartbeats 3200000 in
theorem toAckS_made (A : Option Addr) (n c : Nat) (l : List AckM) (w : World) (h : Rd w w.heap.size [oweD l] [.slice A n c]) (hs : oweSz l ≤ 1048576) :
    Calls Tryz.prog 42 #[.slice A n c] w (MadeAckS w l) := by
 obtain ⟨A', n', c', e, hl, hnc, hcm, hel⟩ := h.owes
 injection e with e1 e2 e3
 subst e1 e2 e3
 have hn : n ≤ 1048576 := by unfold oweSz at hs; omega
 have HS := jd hs
 have HL := jd hl
 have hmk := run_make_k (P := Tryz.prog) 50 116 (.agg #[.int .i64 0, .int .i64 0, .int .i64 0, .int .i64 0]) #[.int .i64 0, .int .i64 0, .int .i64 0, .int .i64 0] 4 32 Tryz.underlying50 infoAck rfl .i64 .i64 n (by omega) (by omega)
 have O0 := jd (ow_made (w := w) (e := 116) (f := oweC) (x0 := (⟨0, 0, 0, 0⟩ : AckM)) (zc := #[.int .i64 0, .int .i64 0, .int .i64 0, .int .i64 0]) (k := 4) rfl (by decide) n (by simp only [maxLen]; omega) ow_zero_owe)
 have B0 := jd ((Below.refl w.heap.size w).alloc (Nat.le_refl _) (.cells (madeCells #[.int .i64 0, .int .i64 0, .int .i64 0, .int .i64 0] (n * 4)) 116))
 clear hl hs h
 go_enter Tryz.func42, Tryz.ntmps42
 go_wp2
 go_loopw [4] (fun i wr => ∃ (j : Nat) (fp : List Nat), j ≤ n ∧ i = .int .i64 (j : Int) ∧ Ow wr [oweD (l.take j ++ List.replicate (n - j) (⟨0, 0, 0, 0⟩ : AckM))] [.slice (some ⟨w.heap.size, 0, none⟩) n n] fp ∧ fp.Nodup ∧ (∀ p ∈ fp, w.heap.size ≤ p) ∧ Below w.heap.size w wr) (fun i _ => n - (intOf i).toNat)
 case atStart => exact ⟨0, _, Nat.zero_le _, rfl, O0.out, by simp, by simp, B0.out⟩
 case round =>
  obtain ⟨j, fp, hj, rfl, hown, hnd, hge, hbel⟩ := hrel
  clear hmk O0 B0
  by_cases hlt : j < n
  · obtain ⟨b, off, rfl, hb, hc⟩ := hel (by omega)
    have hjl : j < l.length := by have := HL.out; omega
    obtain ⟨hc0, hc1, hc2, hc3⟩ := hc j hjl
    have cs0 := (hbel.cell (p := ⟨b, off + j * 4, none⟩) hb).trans hc0
    have cs1 := (hbel.cell (p := ⟨b, off + j * 4 + 1, none⟩) hb).trans hc1
    have cs2 := (hbel.cell (p := ⟨b, off + j * 4 + 2, none⟩) hb).trans hc2
    have cs3 := (hbel.cell (p := ⟨b, off + j * 4 + 3, none⟩) hb).trans hc3
    obtain ⟨x0, hx0⟩ : ∃ x0, x0 = l[j].cl := ⟨_, rfl⟩
    obtain ⟨x1, hx1⟩ : ∃ x1, x1 = l[j].sq := ⟨_, rfl⟩
    obtain ⟨x2, hx2⟩ : ∃ x2, x2 = l[j].ix := ⟨_, rfl⟩
    obtain ⟨x3, hx3⟩ : ∃ x3, x3 = l[j].last := ⟨_, rfl⟩
    rw [← hx0] at cs0
    rw [← hx1] at cs1
    rw [← hx2] at cs2
    rw [← hx3] at cs3
    have HX := jd (show l[j] = ⟨x0, x1, x2, x3⟩ by rw [hx0, hx1, hx2, hx3])
    clear hx0 hx1 hx2 hx3 hc hc0 hc1 hc2 hc3
    go_wp2_with fail
    refine (toAck_any x0 x1 x2 x3 _).mono ?_
    rintro e w1 ⟨rfl, b1⟩
    have hown1 := hown.keep b1
    have hl2 : (l.take j ++ List.replicate (n - j) (⟨0, 0, 0, 0⟩ : AckM)).length = n := by simp; have := HL.out; omega
    obtain ⟨es, he, hcell, hfr⟩ := Ow.slots (k := 4) oweC_len (by decide) hown1 (j := j) (by omega)
    have ck0 := hcell 0 (by decide)
    have ck1 := hcell 1 (by decide)
    have ck2 := hcell 2 (by decide)
    have ck3 := hcell 3 (by decide)
    rw [Nat.add_zero] at ck0
    match es, he with
    | [y0, y1, y2, y3], _ =>
    have ck0' : w1.cell? ⟨w.heap.size, j * 4, none⟩ = some y0 := ck0
    have ck1' : w1.cell? ⟨w.heap.size, j * 4 + 1, none⟩ = some y1 := ck1
    have ck2' : w1.cell? ⟨w.heap.size, j * 4 + 2, none⟩ = some y2 := ck2
    have ck3' : w1.cell? ⟨w.heap.size, j * 4 + 3, none⟩ = some y3 := ck3
    have fk0 := hfr (j * 4)
    have fk1 := hfr (j * 4 + 1)
    have fk2 := hfr (j * 4 + 2)
    have fk3 := hfr (j * 4 + 3)
    have ho : Ow w1 (oweC ⟨x0, x1, x2, x3⟩) [.int .i64 x0, .int .i64 x1, .int .i64 x2, .int .i64 x3] [] := .int (.int (.int (.int (.nil))))
    have hfresh : ∀ p ∈ ([] : List Nat), wr.heap.size ≤ p := fun p hp => by cases hp
    have hold := hown.lt
    obtain ⟨ht, fp', hfin, hnd', hsub⟩ := Ow.store (k := 4) oweC_len (by decide) hown1 hnd (j := j) (x := ⟨x0, x1, x2, x3⟩) (by omega) ho List.nodup_nil (fun p hp hm => by have := hfresh p hp; have := hold p hm; omega)
    have z := hbel.size
    have R1 := jd (show Ow (puts w1 w.heap.size (j * 4) [.int .i64 x0, .int .i64 x1, .int .i64 x2, .int .i64 x3]) [oweD (l.take (j + 1) ++ List.replicate (n - (j + 1)) (⟨0, 0, 0, 0⟩ : AckM))] [.slice (some ⟨w.heap.size, 0, none⟩) n n] fp' by
     have h1 := fill_step (x0 := (⟨0, 0, 0, 0⟩ : AckM)) HL.out hjl
     rw [HX.out] at h1
     rw [← h1]
     exact hfin)
    have R2 := jd (show ∀ p ∈ fp', w.heap.size ≤ p from fun p hp => by
     rcases hsub p hp with h | h
     · exact hge p h
     · have := hfresh p h; omega)
    have b01 := hbel.trans (b1.mono hbel.size)
    have R3 := jd (show Below w.heap.size w (puts w1 w.heap.size (j * 4) [.int .i64 x0, .int .i64 x1, .int .i64 x2, .int .i64 x3]) from b01.trans (ht.below (by simp) b01.size))
    have R4 := jd hnd'
    clear hown hown1 hfin hnd' hsub ht ho b1 b01 hcell hfr ck0 ck1 ck2 ck3 hbel hl2 hfresh hold
    go_wp2
    go_roundw
    case rel => exact ⟨j + 1, fp', by omega, by go_num, R1.out, R4.out, R2.out, R3.out⟩
    case measure => simp [intOf]; omega
  · go_wp2
    go_ret
    have e : n - j = 0 := by omega
    rw [e, List.replicate_zero, List.append_nil, List.take_of_length_le (by have := HL.out; omega)] at hown
    exact ⟨_, _, _, rfl, ⟨fp, hown, hnd, hge⟩, hbel⟩
set_option maxHeartbeats 3200000 in
theorem eqAckS_yes (A A' : Option Addr) (n n' c c' B B' : Nat) (l : List AckM) (w : World) (h : Rd w B [oweD l] [.slice A n c]) (h' : Rd w B' [oweD l] [.slice A' n' c']) (hB : B ≤ w.heap.size) (hB' : B' ≤ w.heap.size) (hs : oweSz l ≤ 1048577) :
    Calls Tryz.prog 48 #[.slice A n c, .slice A' n' c'] w fun e w' => e = .returned (.bool true) ∧ Below w.heap.size w w' := by
 obtain ⟨_, _, _, e, hl, _, _, hel⟩ := h.owes
 injection e with e1 e2 e3
 subst e1 e2 e3
 obtain ⟨_, _, _, e, hl', _, _, hel'⟩ := h'.owes
 injection e with e1 e2 e3
 subst e1 e2 e3
 obtain rfl : n = n' := by rw [← hl, hl']
 have hn : n ≤ 1048577 := by unfold oweSz at hs; omega
 have HS := jd hs
 have HL := jd hl
 clear hl hl' hs h h'
 go_enter Tryz.func48, Tryz.ntmps48
 go_wp2
 go_loopw [5] (fun i wr => ∃ j : Nat, j ≤ n ∧ i = .int .i64 (j : Int) ∧ Below w.heap.size w wr) (fun i _ => n - (intOf i).toNat)
 case atStart => exact ⟨0, Nat.zero_le _, rfl, Below.refl _ _⟩
 case round =>
  obtain ⟨j, hj, rfl, hbel⟩ := hrel
  by_cases hlt : j < n
  · obtain ⟨b, off, rfl, hb, hc⟩ := hel (by omega)
    obtain ⟨b', off', rfl, hb', hc'⟩ := hel' (by omega)
    have hjl : j < l.length := by have := HL.out; omega
    obtain ⟨hc0, hc1, hc2, hc3⟩ := hc j hjl
    obtain ⟨hd0, hd1, hd2, hd3⟩ := hc' j hjl
    have cs0 := (hbel.cell (p := ⟨b, off + j * 4, none⟩) (show b < _ by omega)).trans hc0
    have cs1 := (hbel.cell (p := ⟨b, off + j * 4 + 1, none⟩) (show b < _ by omega)).trans hc1
    have cs2 := (hbel.cell (p := ⟨b, off + j * 4 + 2, none⟩) (show b < _ by omega)).trans hc2
    have cs3 := (hbel.cell (p := ⟨b, off + j * 4 + 3, none⟩) (show b < _ by omega)).trans hc3
    have ct0 := (hbel.cell (p := ⟨b', off' + j * 4, none⟩) (show b' < _ by omega)).trans hd0
    have ct1 := (hbel.cell (p := ⟨b', off' + j * 4 + 1, none⟩) (show b' < _ by omega)).trans hd1
    have ct2 := (hbel.cell (p := ⟨b', off' + j * 4 + 2, none⟩) (show b' < _ by omega)).trans hd2
    have ct3 := (hbel.cell (p := ⟨b', off' + j * 4 + 3, none⟩) (show b' < _ by omega)).trans hd3
    generalize l[j].cl = x0 at *
    generalize l[j].sq = x1 at *
    generalize l[j].ix = x2 at *
    generalize l[j].last = x3 at *
    have i0 : (0 : Int) ≤ (j : Int) := by omega
    have i1 : (j : Int) < (n : Int) := by omega
    have z := hbel.size
    have HB := jd hbel
    clear hc hc' hc0 hd0 hc1 hd1 hc2 hd2 hc3 hd3 hel hel' hbel
    go_wp2_with fail
    go_region_with (first
     | (go_at_call 90
        refine (eqAck_one x0 x1 x2 x3 _).mono ?_
        rintro e w1 ⟨rfl, b1⟩
        have BB := jd (HB.out.drew.trans (b1.mono (by show w.heap.size ≤ wr.heap.size; omega)))))
    all_goals
     go_wp2
     go_roundw
     case rel => exact ⟨j + 1, by omega, by go_num, BB.out⟩
     case measure => simp [intOf]; omega
  · go_wp2
    go_ret
    exact ⟨rfl, hbel⟩
theorem szAckS_any (A : Option Addr) (n c : Nat) (l : List AckM) (B : Nat) (L : Int) (w : World) (h : Rd w B [oweD l] [.slice A n c]) (_hB : B ≤ w.heap.size) (l0 : 0 ≤ L) (l1 : L ≤ 1048576) :
    Calls Tryz.prog 27 #[.slice A n c, .int .i64 L] w fun e w' => e = .returned (.int .i64 (left L (oweSz l))) ∧ Below w.heap.size w w' := by
 obtain ⟨_, _, _, e, hl, h1, h2, _⟩ := h.owes
 injection e with e1 e2 e3
 subst e1 e2 e3
 have hm : n ≤ maxLen := Nat.le_trans h1 h2
 unfold maxLen at hm
 have e : oweSz l = n := hl
 rw [e]
 clear h hl e
 by_cases h : (n : Int) ≤ L
 · rw [left, if_pos h]
   go_enter Tryz.func27, Tryz.ntmps27
   go_wp2
   go_ret
   exact ⟨rfl, Below.refl _ _⟩
 · rw [left, if_neg h]
   go_enter Tryz.func27, Tryz.ntmps27
   go_wp2
   go_ret
   exact ⟨rfl, Below.refl _ _⟩
set_option maxHeartbeats 6400000 in
theorem markAckS_any (A : Option Addr) (n c : Nat) (l : List AckM) (fp : List Nat) (w : World) (o : Ow w [oweD l] [.slice A n c] fp) (hnd : fp.Nodup) (hs : oweSz l ≤ 1048577) (k : Int) (k0 : 0 ≤ k) (k1 : k ≤ 100000000000) :
    Calls Tryz.prog 56 #[.slice A n c, .int .i64 k] w fun e w' => ∃ l', e = .returned (.int .i64 (k + (oweN l : Int))) ∧ Ow w' [oweD l'] [.slice A n c] fp ∧ Touch fp w w' ∧ MarkedAckS l' k ∧ oweN l' = oweN l ∧ oweSz l' = oweSz l := by
 suffices H : Calls Tryz.prog 56 #[.slice A n c, .int .i64 k] w fun e w' => ∃ l', e = .returned (.int .i64 (k + (nums oweNs l l.length : Int))) ∧ Ow w' [oweD l'] [.slice A n c] fp ∧ Touch fp w w' ∧ l'.map (fun r => (oweNs r).length) = l.map (fun r => (oweNs r).length) ∧ l'.flatMap oweNs = upFrom k (nums oweNs l l.length) by
  refine H.mono ?_
  rintro e w' ⟨l', rfl, o', t', h1, h2⟩
  have h3 := len_of_map h1
  refine ⟨l', rfl, o', t', ?_, ?_, oweSz_map h1⟩
  · show l'.flatMap oweNs = upFrom k (l'.flatMap oweNs).length
    rw [h2, upFrom_length]
  · show nums oweNs l' l'.length = nums oweNs l l.length
    rw [h3]
    exact nums_map h1 _
 obtain ⟨A', n', c', e, hl, _, _⟩ := o.rd.owes
 injection e with e1 e2 e3
 subst e1 e2 e3
 have HL := jd hl
 have hn : n ≤ 1048577 := by unfold oweSz at hs; omega
 have HS := jd hs
 have O := jd o
 have HN := jd hnd
 clear o hs hnd hl
 go_enter Tryz.func56, Tryz.ntmps56
 go_wp2
 go_loopw [1, 5] (fun q i wr => ∃ (j : Nat) (l' : List AckM), j ≤ n ∧ i = .int .i64 (j : Int) ∧ q = .int .i64 (k + (nums oweNs l j : Int)) ∧ l'.map (fun r => (oweNs r).length) = l.map (fun r => (oweNs r).length) ∧ (l'.take j).flatMap oweNs = upFrom k (nums oweNs l j) ∧ Ow wr [oweD l'] [.slice A n c] fp ∧ Touch fp w wr) (fun _ i _ => n - (intOf i).toNat)
 case atStart => exact ⟨0, l, Nat.zero_le _, rfl, by simp [nums, pre_zero], rfl, by simp [nums, pre_zero, upFrom], O.out, Touch.refl _ _⟩
 case round =>
  obtain ⟨j, l', hj, rfl, rfl, hmap, hflat, hown, htch⟩ := hrel
  have hll : l'.length = l.length := by simpa using congrArg List.length hmap
  by_cases hlt : j < n
  · have hjl : j < l'.length := by have := HL.out; omega
    have hjl2 : j < l.length := by have := HL.out; omega
    have hlen0 : (oweNs l'[j]).length = (oweNs l[j]).length := by
     have h1 := congrArg (fun q => q[j]?) hmap
     simp [List.getElem?_eq_getElem hjl, List.getElem?_eq_getElem hjl2] at h1
     exact h1
    obtain ⟨g, d, es, f2, e, _, _, he, hcell, hfr, hel, hn2, hg2, hgf, hsub, _, _⟩ := Ow.elem (k := 4) oweC_len (by decide) hown HN.out (j := j) hjl
    injection e with e e2 e3
    subst e e3
    match es, he with
    | [y0, y1, y2, y3], _ =>
    obtain ⟨ey0, ey1, ey2, ey3, ef2⟩ := Ow.owe hel
    subst ey0
    subst ey1
    subst ey2
    subst ey3
    subst ef2
    have ck0 := hcell 0 (by decide)
    have ck1 := hcell 1 (by decide)
    have ck2 := hcell 2 (by decide)
    have ck3 := hcell 3 (by decide)
    rw [Nat.add_zero] at ck0
    have cl0 : wr.cell? ⟨g, j * 4, none⟩ = some (.int .i64 l'[j].cl) := ck0
    have cl1 : wr.cell? ⟨g, j * 4 + 1, none⟩ = some (.int .i64 l'[j].sq) := ck1
    have cl2 : wr.cell? ⟨g, j * 4 + 2, none⟩ = some (.int .i64 l'[j].ix) := ck2
    have cl3 : wr.cell? ⟨g, j * 4 + 3, none⟩ = some (.int .i64 l'[j].last) := ck3
    have fk0 := hfr (j * 4)
    have fk1 := hfr (j * 4 + 1)
    have fk2 := hfr (j * 4 + 2)
    have fk3 := hfr (j * 4 + 3)
    have hlen : 4 = (oweNs l[j]).length := rfl
    have hnj : nums oweNs l (j + 1) = nums oweNs l j + 4 := by rw [hlen]; exact pre_succ hjl2
    have hb1 : nums oweNs l j + 4 ≤ 4194308 := by
     rw [hlen]
     have h1 : nums oweNs l j + (oweNs l[j]).length ≤ (l.map (fun r => (oweNs r).length)).sum := pre_at (g := fun r => (oweNs r).length) hjl2
     have h2 := HS.out
     unfold oweSz at h2
     have h3 := oweN_eq l
     omega
    generalize hN : nums oweNs l j = N at *
    obtain ⟨x0, hx0⟩ : ∃ x, x = l'[j].cl := ⟨_, rfl⟩
    obtain ⟨x1, hx1⟩ : ∃ x, x = l'[j].sq := ⟨_, rfl⟩
    obtain ⟨x2, hx2⟩ : ∃ x, x = l'[j].ix := ⟨_, rfl⟩
    obtain ⟨x3, hx3⟩ : ∃ x, x = l'[j].last := ⟨_, rfl⟩
    rw [← hx0] at cl0
    rw [← hx1] at cl1
    rw [← hx2] at cl2
    rw [← hx3] at cl3
    have hlj : l'[j] = ⟨x0, x1, x2, x3⟩ := by rw [hx0, hx1, hx2, hx3]
    obtain ⟨tg, hown2⟩ := Ow.storeFront (k := 4) oweC_len (by decide) hown HN.out (j := j) hjl (x := ⟨k + (N : Int), k + (N : Int) + 1, k + (N : Int) + 1 + 1, k + (N : Int) + 1 + 1 + 1⟩) (xs := [x0, x1, x2, x3]) (xs' := [k + (N : Int), k + (N : Int) + 1, k + (N : Int) + 1 + 1, k + (N : Int) + 1 + 1 + 1]) (rest := []) (by rw [hlj]; rfl) rfl rfl
    have t2 := htch.trans (tg.mono (fun p hp => by have : p = g := by simpa using hp
                                                   rw [this]; exact hgf))
    have R1 := jd hown2
    have R2 := jd t2
    have HJ := jd hnj
    have HM := jd hmap
    have HF := jd hflat
    have HE := jd hlen
    have HLL := jd hll
    have HNN := jd hN
    have HL0 := jd hlen0
    clear hmap hflat htch hsub hcell ck0 ck1 ck2 ck3 hel hown hown2 hfr hgf hlen hnj hN hll e2 tg t2 hlen0 hx0 hx1 hx2 hx3 hlj
    go_wp2
    go_roundw
    case rel =>
     refine ⟨j + 1, _, by omega, by go_num, by rw [HJ.out]; go_num, ?_, ?_, R1.out, R2.out⟩
     · rw [set_map hjl ?_]
       · exact HM.out
       · exact rfl
     · have h1 := nums_map HM.out j
       have h2 := flat_step (g := oweNs) (l := l') (j := j) (k := k) (x := ⟨k + (N : Int), k + (N : Int) + 1, k + (N : Int) + 1 + 1, k + (N : Int) + 1 + 1 + 1⟩) hjl (by rw [h1, HNN.out]; exact HF.out) (by
        rw [h1, HNN.out]
        show [k + (N : Int), k + (N : Int) + 1, k + (N : Int) + 1 + 1, k + (N : Int) + 1 + 1 + 1] = upFrom (k + (N : Int)) 4
        simp only [upFrom_cons, upFrom_zero])
       rw [h2, h1, HNN.out, HJ.out]
       rfl
    case measure => simp [intOf]; omega
  · go_wp2
    go_ret
    have hjn : j = l.length := by have := HL.out; omega
    subst hjn
    refine ⟨l', rfl, hown, htch, hmap, ?_⟩
    rw [List.take_of_length_le (by omega)] at hflat
    exact hflat
def inB (x lo hi : Int) : Bool := decide (lo ≤ x) && decide (x ≤ hi)
theorem inB_iff (x lo hi : Int) : inB x lo hi = true ↔ lo ≤ x ∧ x ≤ hi := by simp [inB]
def opB (o : OpM) : Bool :=
 if o.kind = 1 then inB o.a 0 9 && (inB o.b 0 999 && (decide (o.c = 0) && decide (o.d = 0)))
 else if o.kind = 2 then inB o.a 0 9 && (decide (o.b = 0) && (decide (o.c = 0) && decide (o.d = 0)))
 else if o.kind = 3 then inB o.a 1 20 && (inB o.b 0 1000000 && (inB o.c 0 9 && inB o.d 0 999))
 else if o.kind = 4 then inB o.a 1 20 && (inB o.b 0 1000 && (decide (o.c = 0) && decide (o.d = 0)))
 else if o.kind = 5 then inB o.a 1 1000 && (decide (o.b = 0) && (decide (o.c = 0) && decide (o.d = 0)))
 else false
def EntM.op (e : EntM) : OpM := ⟨e.kd, e.oa, e.ob, e.oc, e.od⟩
def askB (x : Int) : Bool := inB x 2 5
def entB (e : EntM) : Bool := inB e.idx 1 2000 && (inB e.tm 0 1000000 && (askB e.cl && (inB e.sq 1 2000 && opB e.op)))
def ent0 : EntM := ⟨0, 0, 0, 0, 0, 0, 0, 0, 0⟩
def nextAt (l : List EntM) (j : Nat) : Bool := decide (j = 0) || (decide ((l.getD j ent0).idx = (l.getD (j - 1) ent0).idx + 1) && decide ((l.getD (j - 1) ent0).tm ≤ (l.getD j ent0).tm))
def entsAt (l : List EntM) (j : Nat) : Bool := entB (l.getD j ent0) && nextAt l j
def entsB (l : List EntM) : Bool := decide (l.length ≤ 2000) && (List.range l.length).all (entsAt l)
theorem egetD {l : List EntM} {j : Nat} (hj : j < l.length) : l.getD j ent0 = l[j] := by simp [List.getD, List.getElem?_eq_getElem hj]
theorem entB_iff (e : EntM) : entB e = true ↔ (1 ≤ e.idx ∧ e.idx ≤ 2000) ∧ (0 ≤ e.tm ∧ e.tm ≤ 1000000) ∧ (2 ≤ e.cl ∧ e.cl ≤ 5) ∧ (1 ≤ e.sq ∧ e.sq ≤ 2000) ∧ opB e.op = true := by
 unfold entB askB
 simp only [Bool.and_eq_true, inB_iff]
theorem entsB_iff (l : List EntM) : entsB l = true ↔ l.length ≤ 2000 ∧ ∀ j, j < l.length → entsAt l j = true := by
 unfold entsB
 simp only [Bool.and_eq_true, decide_eq_true_eq, List.all_eq_true, List.mem_range]
theorem entsB_long {l : List EntM} (h : 2000 < l.length) : entsB l = false := by
 unfold entsB
 rw [decide_eq_false (by omega), Bool.false_and]
theorem entsB_step {l : List EntM} {j : Nat} (hj : j < l.length) (h : entsAt l j = false) : entsB l = false := by
 rw [Bool.eq_false_iff]
 intro h2
 have := ((entsB_iff l).1 h2).2 j hj
 rw [h] at this
 cases this
theorem entsB_end {l : List EntM} (h : l.length ≤ 2000) (h2 : ∀ j, j < l.length → entsAt l j = true) : entsB l = true := (entsB_iff l).2 ⟨h, h2⟩
theorem nextAt_succ {l : List EntM} {k : Nat} (h : k + 1 < l.length) : nextAt l (k + 1) = (decide (l[k + 1].idx = l[k].idx + 1) && decide (l[k].tm ≤ l[k + 1].tm)) := by
 unfold nextAt
 rw [Nat.add_sub_cancel, egetD h, egetD (show k < l.length by omega), decide_eq_false (by omega), Bool.false_or]
theorem entsAt_eq {l : List EntM} {j : Nat} (hj : j < l.length) : entsAt l j = (entB l[j] && nextAt l j) := by
 unfold entsAt
 rw [egetD hj]
theorem Sep.row {w : World} {base : Nat} {is : List Item} (h : Sep w base is) (n : Nat) {p : Nat} {cs : Array Value} {t : TypeId} (hn : is[n]? = some (.blk p cs t)) (cells : Array Value) : Sep (w.setRow p cells) base (is.set n (.blk p cells t)) := by
 have hlt : n < is.length := by
  rcases Nat.lt_or_ge n is.length with h1 | h1
  · exact h1
  · rw [List.getElem?_eq_none h1] at hn; cases hn
 have hset : foots (is.set n (.blk p cells t)) = foots is := by
  unfold foots
  have hi : is[n] = .blk p cs t := by rw [List.getElem?_eq_getElem hlt] at hn; injection hn
  rw [List.set_eq_take_append_cons_drop, if_pos hlt]
  have e : is = is.take n ++ is[n] :: is.drop (n + 1) := by rw [List.getElem_cons_drop, List.take_append_drop]
  conv => rhs; rw [e]
  rw [List.flatMap_append, List.flatMap_append, List.flatMap_cons, List.flatMap_cons, hi]
  rfl
 have hb := h.at_ n hn
 refine ⟨fun m i hi => ?_, by rw [hset]; exact h.nodup, by rw [hset]; exact h.ge⟩
 by_cases e : n = m
 · subst e
   rw [List.getElem?_set_self hlt] at hi
   injection hi with hi
   subst hi
   exact setRow_heap w p cs cells t (0, 0) hb
 · rw [List.getElem?_set_ne e] at hi
   have hh := h.holds m i hi
   have hnd := h.nodup
   refine Item.same hh (fun q hq => setRow_other w p q cells (fun hqp => ?_))
   subst hqp
   rw [foots_split is hn] at hnd
   have hm := foot_mem hi hq
   rcases Nat.lt_or_gt_of_ne e with h1 | h1
   · have : q ∈ foots (is.drop (n + 1)) := foot_mem (n := m - (n + 1)) (by rw [List.getElem?_drop]; rw [show n + 1 + (m - (n + 1)) = m by omega]; exact hi) hq
     rw [List.nodup_append, List.nodup_append] at hnd
     exact hnd.2.1.2.2 q (by simp [Item.foot]) q this rfl
   · have : q ∈ foots (is.take n) := foot_mem (n := m) (by rw [List.getElem?_take, if_pos h1]; exact hi) hq
     rw [List.nodup_append] at hnd
     exact hnd.2.2 q this q (by simp [Item.foot]) rfl
theorem touch_setRow (w : World) (p : Nat) (cells : Array Value) : Touch [p] w (w.setRow p cells) :=
 ⟨rfl, rfl, rfl, by simp [World.setRow], fun k _ hk => setRow_other w p k cells (fun e => hk (by simp [e]))⟩
end Go.Proofs.YthjjdelpdiipdaaGreatDoor

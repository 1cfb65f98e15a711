/- Parts of my texts: KD. -/
import Derived.Test.YthjjdelpdiipdaaGreatDoorMX1
import Derived.RegionTactic
namespace Go.Proofs.YthjjdelpdiipdaaGreatDoor
set_option maxRecDepth 100000
set_option linter.unusedVariables false
open Go.RowKit
def wrC (p : Int × List Int) : List Dat := [.int p.1, rowD p.2]
def keptD (l : List (List Int)) : Dat := lst 60 1 rowC l
def waitD (l : List (Int × List Int)) : Dat := lst 166 2 wrC l
theorem wrC_len (p : Int × List Int) : (wrC p).length = 2 := rfl
structure DiskM where
 kept : List (List Int)
 wait : List (Int × List Int)
def DiskM.cells (d : DiskM) : List Dat := [keptD d.kept, waitD d.wait]
def rowsSz (l : List (List Int)) : Nat := l.length + (l.map List.length).sum
def wrSz (p : Int × List Int) : Nat := p.2.length
def waitSz (l : List (Int × List Int)) : Nat := l.length + (l.map wrSz).sum
def DiskM.sz (d : DiskM) : Nat := rowsSz d.kept + waitSz d.wait
section
variable {w : World} {B : Nat} {v0 v1 : Value} {d : DiskM}
theorem Rd.kept {l : List (List Int)} (h : Rd w B [keptD l] [v0]) : ∃ A n c, v0 = .slice A n c ∧ l.length = n ∧ n ≤ c ∧ c ≤ maxLen ∧
    (0 < n → ∃ b off, A = some ⟨b, off, none⟩ ∧ b < B ∧ ∀ j (hj : j < l.length), ∃ A' m c', w.cell? ⟨b, off + j, none⟩ = some (.slice A' m c') ∧ IRow w B A' m l[j] ∧ m ≤ c' ∧ c' ≤ maxLen) := by
 obtain ⟨A, n, c, rfl, hl, h1, h2, h3⟩ := Rd.lst (k := 1) rowC_len Nat.one_pos h
 refine ⟨A, n, c, rfl, hl, h1, h2, fun hn => ?_⟩
 obtain ⟨b, off, rfl, hb, hc⟩ := h3 hn
 refine ⟨b, off, rfl, hb, fun j hj => ?_⟩
 obtain ⟨es, he, hr, hcell⟩ := hc j hj
 match es, he with
 | [u], _ =>
  obtain ⟨A', m, c', rfl, hi, hm⟩ := hr.irow
  have := hcell 0 (by omega)
  rw [Nat.mul_one, Nat.add_zero] at this
  exact ⟨A', m, c', this, hi, hm⟩
theorem Rd.wait {l : List (Int × List Int)} (h : Rd w B [waitD l] [v0]) : ∃ A n c, v0 = .slice A n c ∧ l.length = n ∧ n ≤ c ∧ c ≤ maxLen ∧
    (0 < n → ∃ b off, A = some ⟨b, off, none⟩ ∧ b < B ∧ ∀ j (hj : j < l.length), ∃ A' m c', w.cell? ⟨b, off + j * 2, none⟩ = some (.int .i64 l[j].1) ∧ w.cell? ⟨b, off + j * 2 + 1, none⟩ = some (.slice A' m c') ∧ IRow w B A' m l[j].2 ∧ m ≤ c' ∧ c' ≤ maxLen) := by
 obtain ⟨A, n, c, rfl, hl, h1, h2, h3⟩ := Rd.lst (k := 2) wrC_len (by decide) h
 refine ⟨A, n, c, rfl, hl, h1, h2, fun hn => ?_⟩
 obtain ⟨b, off, rfl, hb, hc⟩ := h3 hn
 refine ⟨b, off, rfl, hb, fun j hj => ?_⟩
 obtain ⟨es, he, hr, hcell⟩ := hc j hj
 match es, he with
 | [u0, u1], _ =>
  obtain ⟨x0, x1, e, r0, r1⟩ := hr.two
  injection e with e0 e1
  injection e1 with e1 _
  subst e0 e1
  obtain ⟨A', m, c', rfl, hi, hm⟩ := r1.irow
  have h0 := hcell 0 (by omega)
  have h1 := hcell 1 (by omega)
  rw [Nat.add_zero] at h0
  rw [r0.one] at h0
  exact ⟨A', m, c', h0, h1, hi, hm⟩
end
end Go.Proofs.YthjjdelpdiipdaaGreatDoor
namespace Go.Proofs.YthjjdelpdiipdaaGreatDoor
set_option maxRecDepth 100000
open Go.RowKit
set_option maxHeartbeats 800000 in
theorem eqWrite_yes (x : Int) (A A' : Option Addr) (n c c' B B' : Nat) (xs : List Int) (w : World) (h : IRow w B A n xs) (h' : IRow w B' A' n xs) (hB : B ≤ w.heap.size) (hB' : B' ≤ w.heap.size) (hn : n ≤ 1048577) :
    Calls Tryz.prog 162 #[.agg #[.int .i64 x, .slice A n c], .agg #[.int .i64 x, .slice A' n c']] w fun e w' => e = .returned (.bool true) ∧ Below w.heap.size w w' := by
 have b0 : Below w.heap.size w ((w.alloc (.cells #[.int .i64 x, .slice A n c] 166)).alloc (.cells #[.int .i64 x, .slice A' n c'] 166)) :=
  ((Below.refl _ w).alloc (Nat.le_refl _) _).alloc (by simp) _
 have h0 := h.below (b0.mono hB)
 have h1 := h'.below (b0.mono hB')
 have B0 := jd b0
 clear h h' b0
 go_enter Tryz.func162, Tryz.ntmps162
 go_wp2_with fail
 refine (eq_yes A A' n c c' _ _ xs _ h0 h1 hn).mono ?_
 rintro e w1 ⟨rfl, d1⟩
 have B1 := jd (B0.out.trans (d1.below _))
 clear h0 h1 d1
 go_wp2
 go_ret
 exact ⟨rfl, B1.out⟩
set_option maxHeartbeats 1600000 in
theorem eqWriteS_yes (A A' : Option Addr) (n n' c c' B B' : Nat) (l : List (Int × List Int)) (w : World) (h : Rd w B [waitD l] [.slice A n c]) (h' : Rd w B' [waitD l] [.slice A' n' c']) (hB : B ≤ w.heap.size) (hB' : B' ≤ w.heap.size) (hs : waitSz l ≤ 1048577) :
    Calls Tryz.prog 131 #[.slice A n c, .slice A' n' c'] w fun e w' => e = .returned (.bool true) ∧ Below w.heap.size w w' := by
 obtain ⟨_, _, _, e, hl, _, _, hel⟩ := h.wait
 injection e with e1 e2 e3
 subst e1 e2 e3
 obtain ⟨_, _, _, e, hl', _, _, hel'⟩ := h'.wait
 injection e with e1 e2 e3
 subst e1 e2 e3
 obtain rfl : n = n' := by rw [← hl, hl']
 have hn : n ≤ 1048577 := by unfold waitSz at hs; omega
 have HS := jd hs
 have HL := jd hl
 clear hl hl' hs h h'
 go_enter Tryz.func131, Tryz.ntmps131
 go_wp2
 go_loopw [5] (fun i wr => ∃ j : Nat, j ≤ n ∧ i = .int .i64 (j : Int) ∧ Below w.heap.size w wr) (fun i _ => n - (intOf i).toNat)
 case atStart => exact ⟨0, Nat.zero_le _, rfl, Below.refl _ _⟩
 case round =>
  obtain ⟨j, hj, rfl, hbel⟩ := hrel
  by_cases hlt : j < n
  · obtain ⟨b, off, rfl, hb, hc⟩ := hel (by omega)
    obtain ⟨b', off', rfl, hb', hc'⟩ := hel' (by omega)
    have hjl : j < l.length := by have := HL.out; omega
    obtain ⟨A1, m1, d1, hc0, hc1, hrow, _⟩ := hc j hjl
    obtain ⟨A2, m2, d2, hc2, hc3, hrow', _⟩ := hc' j hjl
    obtain rfl : m1 = m2 := by rw [← hrow.1, ← hrow'.1]
    have cs0 := (hbel.cell (p := ⟨b, off + j * 2, none⟩) (show b < _ by omega)).trans hc0
    have cs1 := (hbel.cell (p := ⟨b, off + j * 2 + 1, none⟩) (show b < _ by omega)).trans hc1
    have cs2 := (hbel.cell (p := ⟨b', off' + j * 2, none⟩) (show b' < _ by omega)).trans hc2
    have cs3 := (hbel.cell (p := ⟨b', off' + j * 2 + 1, none⟩) (show b' < _ by omega)).trans hc3
    have hr1 := hrow.below (hbel.mono hB)
    have hr2 := hrow'.below (hbel.mono hB')
    have hm1 : m1 ≤ 1048577 := by
     have h1 := pre_at (g := wrSz) hjl
     have h2 := HS.out
     have h3 := hrow.1
     have h4 : wrSz l[j] = l[j].2.length := rfl
     unfold waitSz at h2
     omega
    generalize l[j].1 = x at *
    generalize l[j].2 = xs at *
    have i0 : (0 : Int) ≤ (j : Int) := by omega
    have i1 : (j : Int) < (n : Int) := by omega
    have z := hbel.size
    have HB := jd hbel
    have R1 := jd hr1
    have R2 := jd hr2
    clear hc hc' hc0 hc1 hc2 hc3 hrow hrow' hel hel' hbel hr1 hr2
    go_wp2_with fail
    go_region_with (first
     | (go_at_call 162
        refine (eqWrite_yes x A1 A2 m1 d1 d2 B B' xs _ ?_ ?_ ?_ ?_ hm1).mono ?_
        exact R1.out
        exact R2.out
        show B ≤ wr.heap.size; omega
        show B' ≤ wr.heap.size; omega
        rintro e w1 ⟨rfl, b1⟩
        have BB := jd (HB.out.drew.trans (b1.mono (by show w.heap.size ≤ wr.heap.size; omega)))))
    all_goals
     go_wp2
     go_roundw
     case rel => exact ⟨j + 1, by omega, by go_num, BB.out⟩
     case measure => simp [intOf]; omega
  · go_wp2
    go_ret
    exact ⟨rfl, hbel⟩
set_option maxHeartbeats 1600000 in
theorem eqRows_yes (A A' : Option Addr) (n n' c c' B B' : Nat) (l : List (List Int)) (w : World) (h : Rd w B [keptD l] [.slice A n c]) (h' : Rd w B' [keptD l] [.slice A' n' c']) (hs : rowsSz l ≤ 1048577) :
    Calls Tryz.prog 130 #[.slice A n c, .slice A' n' c'] w fun e w' => e = .returned (.bool true) ∧ Drew w w' := by
 obtain ⟨_, _, _, e, hl, _, _, hel⟩ := h.kept
 injection e with e1 e2 e3
 subst e1 e2 e3
 obtain ⟨_, _, _, e, hl', _, _, hel'⟩ := h'.kept
 injection e with e1 e2 e3
 subst e1 e2 e3
 obtain rfl : n = n' := by rw [← hl, hl']
 have hn : n ≤ 1048577 := by unfold rowsSz at hs; omega
 have HS := jd hs
 have HL := jd hl
 clear hl hl' hs h h'
 go_enter Tryz.func130, Tryz.ntmps130
 go_wp2
 go_loopw [5] (fun i wr => ∃ j : Nat, j ≤ n ∧ i = .int .i64 (j : Int) ∧ Drew w wr) (fun i _ => n - (intOf i).toNat)
 case atStart => exact ⟨0, Nat.zero_le _, rfl, Drew.refl _⟩
 case round =>
  obtain ⟨j, hj, rfl, hd⟩ := hrel
  by_cases hlt : j < n
  · obtain ⟨b, off, rfl, hb, hc⟩ := hel (by omega)
    obtain ⟨b', off', rfl, hb', hc'⟩ := hel' (by omega)
    have hjl : j < l.length := by have := HL.out; omega
    obtain ⟨A1, m1, d1, hc0, hrow, _⟩ := hc j hjl
    obtain ⟨A2, m2, d2, hc1, hrow', _⟩ := hc' j hjl
    obtain rfl : m1 = m2 := by rw [← hrow.1, ← hrow'.1]
    have cs0 := ((hd.below B).cell (p := ⟨b, off + j, none⟩) hb).trans hc0
    have cs1 := ((hd.below B').cell (p := ⟨b', off' + j, none⟩) hb').trans hc1
    have hm1 : m1 ≤ 1048577 := by
     have h1 := pre_at (g := List.length) hjl
     have h2 := HS.out
     have h3 := hrow.1
     unfold rowsSz at h2
     omega
    have hr1 := hrow.below (hd.below B)
    have hr2 := hrow'.below (hd.below B')
    have hq := jd (fun q => eq_yes A1 A2 m1 d1 d2 _ _ _ (wr.drewN q) (hr1.drewN q) (hr2.drewN q) hm1)
    have i0 : (0 : Int) ≤ (j : Int) := by omega
    have i1 : (j : Int) < (n : Int) := by omega
    clear hc hc' hc0 hc1 hrow hrow' hr1 hr2 hel hel'
    go_wp2
    go_quiet ((go_at_call 20; exact Calls.quiet_of (hq.out _)))
    go_wp2
    go_roundw
    case rel => exact ⟨j + 1, by omega, by go_num, hd.more _⟩
    case measure => simp [intOf]; omega
  · go_wp2
    go_ret
    exact ⟨rfl, hd⟩
theorem Rd.disk {w : World} {B : Nat} {d : DiskM} {v0 v1 : Value} (h : Rd w B d.cells [v0, v1]) : ∃ A n c A' n' c', v0 = .slice A n c ∧ v1 = .slice A' n' c' ∧ Rd w B [keptD d.kept] [.slice A n c] ∧ Rd w B [waitD d.wait] [.slice A' n' c'] := by
 obtain ⟨u0, u1, e, h0, h1⟩ := Rd.two h
 injection e with e0 e1
 injection e1 with e1 _
 subst e0 e1
 obtain ⟨A, n, c, rfl, _⟩ := h0.kept
 obtain ⟨A', n', c', rfl, _⟩ := h1.wait
 exact ⟨A, n, c, A', n', c', rfl, rfl, h0, h1⟩
set_option maxHeartbeats 800000 in
theorem eqDisk_yes (v0 v1 u0 u1 : Value) (B B' : Nat) (d : DiskM) (w : World) (h : Rd w B d.cells [v0, v1]) (h' : Rd w B' d.cells [u0, u1]) (hB : B ≤ w.heap.size) (hB' : B' ≤ w.heap.size) (hs : d.sz ≤ 1048577) :
    Calls Tryz.prog 88 #[.agg #[v0, v1], .agg #[u0, u1]] w fun e w' => e = .returned (.bool true) ∧ Below w.heap.size w w' := by
 obtain ⟨A, n, c, A', n', c', rfl, rfl, h1, h2⟩ := h.disk
 obtain ⟨E, m, g, E', m', g', rfl, rfl, k1, k2⟩ := h'.disk
 obtain ⟨w0, hw0⟩ : ∃ w0, w0 = (w.alloc (.cells #[.slice A n c, .slice A' n' c'] 41)).alloc (.cells #[.slice E m g, .slice E' m' g'] 41) := ⟨_, rfl⟩
 have b0 : Below w.heap.size w w0 := by
  rw [hw0]
  exact ((Below.refl _ w).alloc (Nat.le_refl _) _).alloc (by simp) _
 have p0 : Blk w0 w.heap.size #[.slice A n c, .slice A' n' c'] 41 := by
  rw [hw0]
  exact (Blk.new w _ _).alloc _
 have p1 : Blk w0 (w.heap.size + 1) #[.slice E m g, .slice E' m' g'] 41 := by
  rw [hw0]
  have := Blk.new (w.alloc (.cells #[.slice A n c, .slice A' n' c'] 41)) #[.slice E m g, .slice E' m' g'] 41
  simpa using this
 have hk : rowsSz d.kept ≤ 1048577 := by unfold DiskM.sz at hs; omega
 have hw : waitSz d.wait ≤ 1048577 := by unfold DiskM.sz at hs; omega
 have HW := jd hw0
 clear hw0 hs h h'
 go_enter Tryz.func88, Tryz.ntmps88
 go_wp2_with fail
 rw [← HW.out]
 refine (eqRows_yes A E n m c g B B' d.kept _ (h1.keep (b0.mono hB)) (k1.keep (b0.mono hB')) hk).mono ?_
 rintro e w1 ⟨rfl, d1⟩
 have b1 := b0.trans (d1.below _)
 have q0 := p0.keep (d1.below w0.heap.size) p0.lt
 have q1 := p1.keep (d1.below w0.heap.size) p1.lt
 have c0 : w1.cell? ⟨w.heap.size, 1, none⟩ = some (.slice A' n' c') := q0.cell 1
 have c1 : w1.cell? ⟨w.heap.size + 1, 1, none⟩ = some (.slice E' m' g') := q1.cell 1
 have z1 := b1.size
 clear q0 q1 p0 p1
 go_wp2_with fail
 refine (eqWriteS_yes A' E' n' m' c' g' B B' d.wait _ (h2.keep (b1.mono hB)) (k2.keep (b1.mono hB')) (by omega) (by omega) hw).mono ?_
 rintro e w2 ⟨rfl, b2⟩
 have B2 := jd (b1.trans (b2.mono b1.size))
 clear b2 b1 b0
 go_wp2
 go_ret
 exact ⟨rfl, B2.out⟩
end Go.Proofs.YthjjdelpdiipdaaGreatDoor
namespace Go.Proofs.YthjjdelpdiipdaaGreatDoor
set_option maxRecDepth 100000
open Go.RowKit
theorem infoWrite : (Tryz.prog.info? 166).map (fun i => (i.zero, i.size, i.bytes)) = some (some (.agg #[.int .i64 0, .slice none 0 0]), 2, 32) := by kernel_rfl
theorem ow_zero_write (w : World) : Ow w (wrC (0, [])) [.int .i64 0, .slice none 0 0] [] := .int (ow_nil_row w)
set_option maxHeartbeats 800000 in
theorem toWrite_any (x : Int) (A : Option Addr) (n c : Nat) (xs : List Int) (w : World) (h : IRow w w.heap.size A n xs) (hn : n ≤ 1048576) :
    Calls Tryz.prog 150 #[.agg #[.int .i64 x, .slice A n c]] w fun e w' => ∃ A' n' c', e = .returned (.agg #[.int .i64 x, .slice A' n' c']) ∧ Own w' w.heap.size A' n' c' xs ∧ Below w.heap.size w w' := by
 obtain ⟨w0, hw0⟩ : ∃ w0, w0 = ((w.alloc (.cells #[.int .i64 x, .slice A n c] 170)).alloc (.cells #[.int .i64 0, .slice none 0 0] 166)).alloc (.cells #[.int .i64 x, .slice none 0 0] 166) := ⟨_, rfl⟩
 have b0 : Below w.heap.size w w0 := by
  rw [hw0]
  exact (((Below.refl _ w).alloc (Nat.le_refl _) _).alloc (by simp) _).alloc (by simp; omega) _
 have p1 : Blk w0 (w.heap.size + 1) #[.int .i64 0, .slice none 0 0] 166 := by
  rw [hw0]
  have := (Blk.new (w.alloc (.cells #[.int .i64 x, .slice A n c] 170)) #[.int .i64 0, .slice none 0 0] 166).alloc (.cells #[.int .i64 x, .slice none 0 0] 166)
  simpa using this
 have p2 : Blk w0 (w.heap.size + 1 + 1) #[.int .i64 x, .slice none 0 0] 166 := by
  rw [hw0]
  have := Blk.new ((w.alloc (.cells #[.int .i64 x, .slice A n c] 170)).alloc (.cells #[.int .i64 0, .slice none 0 0] 166)) #[.int .i64 x, .slice none 0 0] 166
  simpa using this
 have h0 := (h.below b0).up b0.size
 have HW := jd hw0
 clear hw0 h
 go_enter Tryz.func150, Tryz.ntmps150
 go_wp2_with fail
 rw [← HW.out]
 refine (to_any A n c xs _ h0 hn).mono ?_
 rintro e w1 ⟨rfl, o1, b1⟩
 have z1 := p1.lt
 have z2 := p2.lt
 have q1 := p1.keep b1 p1.lt
 have q2 := p2.keep b1 p2.lt
 have c10 : w1.cell? ⟨w.heap.size + 1, 0, none⟩ = some (.int .i64 0) := q1.cell 0
 have c11 : w1.cell? ⟨w.heap.size + 1, 1, none⟩ = some (.slice none 0 0) := q1.cell 1
 have f10 := q1.free 0
 have f11 := q1.free 1
 have c20 : w1.cell? ⟨w.heap.size + 1 + 1, 0, none⟩ = some (.int .i64 x) := q2.cell 0
 have c21 : w1.cell? ⟨w.heap.size + 1 + 1, 1, none⟩ = some (.slice none 0 0) := q2.cell 1
 have f21 := q2.free 1
 have hne : w.heap.size + 1 + 1 ≠ w.heap.size + 1 := by omega
 have O5 := jd (((o1.kept (grown_setCell w1 (w.heap.size + 1 + 1) 1 (.slice (some ⟨w0.heap.size, 0, none⟩) n n)) (fun p hp => by injection hp with hp; omega)).kept (grown_setCell _ (w.heap.size + 1) 0 (.int .i64 x)) (fun p hp => by injection hp with hp; omega)).kept (grown_setCell _ (w.heap.size + 1) 1 (.slice (some ⟨w0.heap.size, 0, none⟩) n n)) (fun p hp => by injection hp with hp; omega))
 have B5 := jd ((((b0.trans (b1.mono b0.size)).setCell (p := ⟨w.heap.size + 1 + 1, 1, none⟩) (by show w.heap.size ≤ w.heap.size + 1 + 1; omega) (.slice (some ⟨w0.heap.size, 0, none⟩) n n)).setCell (p := ⟨w.heap.size + 1, 0, none⟩) (by simp) (.int .i64 x)).setCell (p := ⟨w.heap.size + 1, 1, none⟩) (by simp) (.slice (some ⟨w0.heap.size, 0, none⟩) n n))
 clear h0 p1 p2 q1 q2 o1 b1 b0 HW
 go_wp2
 refine bodyPost_ret (v := .agg #[.int .i64 x, .slice (some ⟨w0.heap.size, 0, none⟩) n n]) (by simp [results, Tryz.results150, go_sem, c10, c11]) rfl ⟨_, n, n, rfl, O5.out.up (by omega), B5.out⟩
set_option maxHeartbeats 1600000 in
theorem toWriteS_any (A : Option Addr) (n c : Nat) (l : List (Int × List Int)) (w : World) (h : Rd w w.heap.size [waitD l] [.slice A n c]) (hs : waitSz l ≤ 1048576) :
    Calls Tryz.prog 113 #[.slice A n c] w fun e w' => ∃ v, e = .returned v ∧ Has w' w.heap.size [waitD l] [v] ∧ Below w.heap.size w w' := by
 obtain ⟨A', n', c', e, hl, hnc, hcm, hel⟩ := h.wait
 injection e with e1 e2 e3
 subst e1 e2 e3
 have hn : n ≤ 1048576 := by unfold waitSz at hs; omega
 have HS := jd hs
 have HL := jd hl
 have hmk := run_make_k (P := Tryz.prog) 39 166 (.agg #[.int .i64 0, .slice none 0 0]) #[.int .i64 0, .slice none 0 0] 2 32 Tryz.underlying39 infoWrite rfl .i64 .i64 n (by omega) (by omega)
 have O0 := jd (ow_made (w := w) (e := 166) (f := wrC) (x0 := ((0 : Int), ([] : List Int))) (zc := #[.int .i64 0, .slice none 0 0]) (k := 2) rfl (by decide) n (by simp only [maxLen]; omega) ow_zero_write)
 have B0 := jd ((Below.refl w.heap.size w).alloc (Nat.le_refl _) (.cells (madeCells #[.int .i64 0, .slice none 0 0] (n * 2)) 166))
 clear hl hs h
 go_enter Tryz.func113, Tryz.ntmps113
 go_wp2
 go_loopw [4] (fun i wr => ∃ (j : Nat) (fp : List Nat), j ≤ n ∧ i = .int .i64 (j : Int) ∧ Ow wr [waitD (l.take j ++ List.replicate (n - j) (0, []))] [.slice (some ⟨w.heap.size, 0, none⟩) n n] fp ∧ fp.Nodup ∧ (∀ p ∈ fp, w.heap.size ≤ p) ∧ Below w.heap.size w wr) (fun i _ => n - (intOf i).toNat)
 case atStart => exact ⟨0, _, Nat.zero_le _, rfl, O0.out, by simp, by simp, B0.out⟩
 case round =>
  obtain ⟨j, fp, hj, rfl, hown, hnd, hge, hbel⟩ := hrel
  clear hmk O0 B0
  by_cases hlt : j < n
  · obtain ⟨b, off, rfl, hb, hc⟩ := hel (by omega)
    have hjl : j < l.length := by have := HL.out; omega
    obtain ⟨A1, m1, d1, hc0, hc1, hrow, _⟩ := hc j hjl
    have cs0 := (hbel.cell (p := ⟨b, off + j * 2, none⟩) hb).trans hc0
    have cs1 := (hbel.cell (p := ⟨b, off + j * 2 + 1, none⟩) hb).trans hc1
    have hr1 := (hrow.below hbel).up hbel.size
    have hm1 : m1 ≤ 1048576 := by
     have h1 := pre_at (g := wrSz) hjl
     have h2 := HS.out
     have h3 := hrow.1
     have h4 : wrSz l[j] = l[j].2.length := rfl
     unfold waitSz at h2
     omega
    obtain ⟨x, hx⟩ : ∃ x, x = l[j].1 := ⟨_, rfl⟩
    obtain ⟨xs, hxs⟩ : ∃ xs, xs = l[j].2 := ⟨_, rfl⟩
    rw [← hx] at cs0
    rw [← hxs] at hr1
    have HX := jd (show l[j] = (x, xs) by rw [hx, hxs])
    clear hx hxs hc hc0 hc1 hrow
    go_wp2_with fail
    refine (toWrite_any x A1 m1 d1 xs _ hr1 hm1).mono ?_
    rintro e w1 ⟨A2, n2, c2, rfl, o1, b1⟩
    have hown1 := hown.keep b1
    have hl2 : (l.take j ++ List.replicate (n - j) ((0 : Int), ([] : List Int))).length = n := by simp; have := HL.out; omega
    obtain ⟨es, he, hcell, hfr⟩ := Ow.slots (k := 2) wrC_len (by decide) hown1 (j := j) (by omega)
    have ck0 := hcell 0 (by decide)
    have ck1 := hcell 1 (by decide)
    rw [Nat.add_zero] at ck0
    match es, he with
    | [y0, y1], _ =>
    have ck0' : w1.cell? ⟨w.heap.size, j * 2, none⟩ = some y0 := ck0
    have ck1' : w1.cell? ⟨w.heap.size, j * 2 + 1, none⟩ = some y1 := ck1
    have fk0 := hfr (j * 2)
    have fk1 := hfr (j * 2 + 1)
    have ho : Ow w1 (wrC (x, xs)) [.int .i64 x, .slice A2 n2 c2] (Value.slice A2 n2 c2).ownBlock.toList := .int o1.ow
    have hfresh : ∀ p ∈ (Value.slice A2 n2 c2).ownBlock.toList, wr.heap.size ≤ p := fun p hp => (o1.ge p (by simpa using hp)).1
    have hold := hown.lt
    obtain ⟨ht, fp', hfin, hnd', hsub⟩ := Ow.store (k := 2) wrC_len (by decide) hown1 hnd (j := j) (x := (x, xs)) (by omega) ho (by cases (Value.slice A2 n2 c2).ownBlock <;> simp) (fun p hp hm => by have := hfresh p hp; have := hold p hm; omega)
    have z := hbel.size
    have R1 := jd (show Ow (puts w1 w.heap.size (j * 2) [.int .i64 x, .slice A2 n2 c2]) [waitD (l.take (j + 1) ++ List.replicate (n - (j + 1)) (0, []))] [.slice (some ⟨w.heap.size, 0, none⟩) n n] fp' by
     have h1 := fill_step (x0 := ((0 : Int), ([] : List Int))) HL.out hjl
     rw [HX.out] at h1
     rw [← h1]
     exact hfin)
    have R2 := jd (show ∀ p ∈ fp', w.heap.size ≤ p from fun p hp => by
     rcases hsub p hp with h | h
     · exact hge p h
     · have := hfresh p h; omega)
    have b01 := hbel.trans (b1.mono hbel.size)
    have R3 := jd (show Below w.heap.size w (puts w1 w.heap.size (j * 2) [.int .i64 x, .slice A2 n2 c2]) from b01.trans (ht.below (by simp) b01.size))
    have R4 := jd hnd'
    clear hown hown1 hfin hnd' hsub ht ho o1 b1 b01 hcell hfr ck0 ck1 hbel hl2 hfresh hold hr1
    go_wp2
    go_roundw
    case rel => exact ⟨j + 1, fp', by omega, by go_num, R1.out, R4.out, R2.out, R3.out⟩
    case measure => simp [intOf]; omega
  · go_wp2
    go_ret
    refine ⟨_, rfl, ⟨fp, ?_, hnd, hge⟩, hbel⟩
    have e : n - j = 0 := by omega
    rw [e, List.replicate_zero, List.append_nil, List.take_of_length_le (by have := HL.out; omega)] at hown
    exact hown
set_option maxHeartbeats 1600000 in
theorem toRows_any (A : Option Addr) (n c : Nat) (l : List (List Int)) (w : World) (h : Rd w w.heap.size [keptD l] [.slice A n c]) (hs : rowsSz l ≤ 1048576) :
    Calls Tryz.prog 112 #[.slice A n c] w fun e w' => ∃ v, e = .returned v ∧ Has w' w.heap.size [keptD l] [v] ∧ Below w.heap.size w w' := by
 obtain ⟨A', n', c', e, hl, hnc, hcm, hel⟩ := h.kept
 injection e with e1 e2 e3
 subst e1 e2 e3
 have hn : n ≤ 1048576 := by unfold rowsSz at hs; omega
 have HS := jd hs
 have HL := jd hl
 have hmk := run_make_k (P := Tryz.prog) 22 60 (.slice none 0 0) #[.slice none 0 0] 1 24 Tryz.underlying22 infoRow rfl .i64 .i64 n (by omega) (by omega)
 rw [Nat.mul_one] at hmk
 have hmd := ow_made (w := w) (e := 60) (f := rowC) (x0 := ([] : List Int)) (zc := #[.slice none 0 0]) (k := 1) rfl (by decide) n (by simp only [maxLen]; omega) ow_nil_row
 rw [Nat.mul_one] at hmd
 have O0 := jd hmd
 have B0 := jd ((Below.refl w.heap.size w).alloc (Nat.le_refl _) (.cells (madeCells #[.slice none 0 0] n) 60))
 clear hl hs h hmd
 go_enter Tryz.func112, Tryz.ntmps112
 go_wp2
 go_loopw [4] (fun i wr => ∃ (j : Nat) (fp : List Nat), j ≤ n ∧ i = .int .i64 (j : Int) ∧ Ow wr [keptD (l.take j ++ List.replicate (n - j) [])] [.slice (some ⟨w.heap.size, 0, none⟩) n n] fp ∧ fp.Nodup ∧ (∀ p ∈ fp, w.heap.size ≤ p) ∧ Below w.heap.size w wr) (fun i _ => n - (intOf i).toNat)
 case atStart => exact ⟨0, _, Nat.zero_le _, rfl, O0.out, by simp, by simp, B0.out⟩
 case round =>
  obtain ⟨j, fp, hj, rfl, hown, hnd, hge, hbel⟩ := hrel
  clear hmk O0 B0
  by_cases hlt : j < n
  · obtain ⟨b, off, rfl, hb, hc⟩ := hel (by omega)
    have hjl : j < l.length := by have := HL.out; omega
    obtain ⟨A1, m1, d1, hc0, hrow, _⟩ := hc j hjl
    have cs0 := (hbel.cell (p := ⟨b, off + j, none⟩) hb).trans hc0
    have hr1 := (hrow.below hbel).up hbel.size
    have hm1 : m1 ≤ 1048576 := by
     have h1 := pre_at (g := List.length) hjl
     have h2 := HS.out
     have h3 := hrow.1
     unfold rowsSz at h2
     omega
    obtain ⟨xs, hxs⟩ : ∃ xs, xs = l[j] := ⟨_, rfl⟩
    rw [← hxs] at hr1
    have HX := jd hxs.symm
    clear hxs hc hc0 hrow
    go_wp2_with fail
    refine (to_any A1 m1 d1 xs _ hr1 hm1).mono ?_
    rintro e w1 ⟨rfl, o1, b1⟩
    have hown1 := hown.keep b1
    have hl2 : (l.take j ++ List.replicate (n - j) ([] : List Int)).length = n := by simp; have := HL.out; omega
    obtain ⟨es, he, hcell, hfr⟩ := Ow.slots (k := 1) rowC_len (by decide) hown1 (j := j) (by omega)
    have ck0 := hcell 0 (by decide)
    rw [Nat.add_zero, Nat.mul_one] at ck0
    match es, he with
    | [y0], _ =>
    have ck0' : w1.cell? ⟨w.heap.size, j, none⟩ = some y0 := ck0
    have fk0 := hfr j
    have hfresh : ∀ p ∈ (Value.slice (some ⟨wr.heap.size, 0, none⟩) m1 m1).ownBlock.toList, wr.heap.size ≤ p := fun p hp => (o1.ge p (by simpa using hp)).1
    have hold := hown.lt
    obtain ⟨ht, fp', hfin, hnd', hsub⟩ := Ow.store (k := 1) rowC_len (by decide) hown1 hnd (j := j) (x := xs) (by omega) o1.ow (by simp [Value.ownBlock]) (fun p hp hm => by have := hfresh p hp; have := hold p hm; omega)
    rw [Nat.mul_one] at ht hfin
    have z := hbel.size
    have R1 := jd (show Ow (puts w1 w.heap.size j [.slice (some ⟨wr.heap.size, 0, none⟩) m1 m1]) [keptD (l.take (j + 1) ++ List.replicate (n - (j + 1)) [])] [.slice (some ⟨w.heap.size, 0, none⟩) n n] fp' by
     have h1 := fill_step (x0 := ([] : List Int)) HL.out hjl
     rw [HX.out] at h1
     rw [← h1]
     exact hfin)
    have R2 := jd (show ∀ p ∈ fp', w.heap.size ≤ p from fun p hp => by
     rcases hsub p hp with h | h
     · exact hge p h
     · have := hfresh p h; omega)
    have b01 := hbel.trans (b1.mono hbel.size)
    have R3 := jd (show Below w.heap.size w (puts w1 w.heap.size j [.slice (some ⟨wr.heap.size, 0, none⟩) m1 m1]) from b01.trans (ht.below (by simp) b01.size))
    have R4 := jd hnd'
    clear hown hown1 hfin hnd' hsub ht o1 b1 b01 hcell hfr ck0 hbel hl2 hfresh hold hr1
    go_wp2
    go_roundw
    case rel => exact ⟨j + 1, fp', by omega, by go_num, R1.out, R4.out, R2.out, R3.out⟩
    case measure => simp [intOf]; omega
  · go_wp2
    go_ret
    refine ⟨_, rfl, ⟨fp, ?_, hnd, hge⟩, hbel⟩
    have e : n - j = 0 := by omega
    rw [e, List.replicate_zero, List.append_nil, List.take_of_length_le (by have := HL.out; omega)] at hown
    exact hown
set_option maxHeartbeats 1600000 in
theorem toDisk_any (v0 v1 : Value) (d : DiskM) (w : World) (h : Rd w w.heap.size d.cells [v0, v1]) (hs : d.sz ≤ 1048576) :
    Calls Tryz.prog 75 #[.agg #[v0, v1]] w fun e w' => ∃ u0 u1, e = .returned (.agg #[u0, u1]) ∧ Has w' w.heap.size d.cells [u0, u1] ∧ Below w.heap.size w w' := by
 obtain ⟨A, n, c, A', n', c', rfl, rfl, h1, h2⟩ := h.disk
 obtain ⟨w0, hw0⟩ : ∃ w0, w0 = ((w.alloc (.cells #[.slice A n c, .slice A' n' c'] 25)).alloc (.cells #[.slice none 0 0, .slice none 0 0] 41)).alloc (.cells #[.slice none 0 0, .slice none 0 0] 41) := ⟨_, rfl⟩
 have b0 : Below w.heap.size w w0 := by
  rw [hw0]
  exact (((Below.refl _ w).alloc (Nat.le_refl _) _).alloc (by simp) _).alloc (by simp; omega) _
 have p0 : Blk w0 w.heap.size #[.slice A n c, .slice A' n' c'] 25 := by
  rw [hw0]
  exact ((Blk.new w _ _).alloc _).alloc _
 have p1 : Blk w0 (w.heap.size + 1) #[.slice none 0 0, .slice none 0 0] 41 := by
  rw [hw0]
  have := (Blk.new (w.alloc (.cells #[.slice A n c, .slice A' n' c'] 25)) #[.slice none 0 0, .slice none 0 0] 41).alloc (.cells #[.slice none 0 0, .slice none 0 0] 41)
  simpa using this
 have p2 : Blk w0 (w.heap.size + 1 + 1) #[.slice none 0 0, .slice none 0 0] 41 := by
  rw [hw0]
  have := Blk.new ((w.alloc (.cells #[.slice A n c, .slice A' n' c'] 25)).alloc (.cells #[.slice none 0 0, .slice none 0 0] 41)) #[.slice none 0 0, .slice none 0 0] 41
  simpa using this
 have hk : rowsSz d.kept ≤ 1048576 := by unfold DiskM.sz at hs; omega
 have hw : waitSz d.wait ≤ 1048576 := by unfold DiskM.sz at hs; omega
 have HW := jd hw0
 have z0 := p2.lt
 clear hw0 hs h
 go_enter Tryz.func75, Tryz.ntmps75
 go_wp2_with fail
 rw [← HW.out]
 refine (toRows_any A n c d.kept _ ((h1.keep b0).up b0.size) hk).mono ?_
 rintro e w1 ⟨u0, rfl, o1, b1⟩
 have b01 := b0.trans (b1.mono b0.size)
 have z1 := b1.size
 have q0 := (p0.keep b1 p0.lt).far (q := w.heap.size + 1 + 1) (i := 0) u0 (by omega)
 have q1 := (p1.keep b1 p1.lt).far (q := w.heap.size + 1 + 1) (i := 0) u0 (by omega)
 have q2' := p2.keep b1 p2.lt
 have ca : w1.cell? ⟨w.heap.size + 1 + 1, 0, none⟩ = some (.slice none 0 0) := q2'.cell 0
 have fa := q2'.free 0
 have q2 : Blk (w1.setCell ⟨w.heap.size + 1 + 1, 0, none⟩ u0) (w.heap.size + 1 + 1) #[u0, .slice none 0 0] 41 := q2'.set_ 0 u0
 have o2 := o1.far (p := w.heap.size + 1 + 1) (i := 0) u0 z0
 have b02 := b01.setCell (p := ⟨w.heap.size + 1 + 1, 0, none⟩) (by show w.heap.size ≤ w.heap.size + 1 + 1; omega) u0
 have cb : (w1.setCell ⟨w.heap.size + 1 + 1, 0, none⟩ u0).cell? ⟨w.heap.size, 1, none⟩ = some (.slice A' n' c') := q0.cell 1
 obtain ⟨A1, n1, c1, ru0⟩ : ∃ A1 n1 c1, u0 = .slice A1 n1 c1 := by
  obtain ⟨A1, n1, c1, e, _⟩ := o1.rd.kept
  exact ⟨A1, n1, c1, e⟩
 subst ru0
 have hsz : (w1.setCell ⟨w.heap.size + 1 + 1, 0, none⟩ (.slice A1 n1 c1)).heap.size = w1.heap.size := by simp
 have HSZ := jd hsz
 clear p0 p1 p2 q2' o1 b1 hsz q0
 go_wp2_with fail
 generalize w1.setCell ⟨w.heap.size + 1 + 1, 0, none⟩ (.slice A1 n1 c1) = v1 at *
 have zv := b02.size
 refine (toWriteS_any A' n' c' d.wait _ ((h2.keep b02).up b02.size) hw).mono ?_
 rintro e w2 ⟨u1, rfl, o3, b3⟩
 have z3 := b3.size
 have hv1 := HSZ.out
 have j3 := Has.join o2 b3 o3 (by omega)
 have r1 := q1.keep b3 q1.lt
 have r2 := q2.keep b3 q2.lt
 have b03 := b02.trans (b3.mono b02.size)
 obtain ⟨A2, n2, c2, ru1⟩ : ∃ A2 n2 c2, u1 = .slice A2 n2 c2 := by
  obtain ⟨A2, n2, c2, e, _⟩ := o3.rd.wait
  exact ⟨A2, n2, c2, e⟩
 subst ru1
 have d10 : w2.cell? ⟨w.heap.size + 1, 0, none⟩ = some (.slice none 0 0) := r1.cell 0
 have d11 : w2.cell? ⟨w.heap.size + 1, 1, none⟩ = some (.slice none 0 0) := r1.cell 1
 have f10 := r1.free 0
 have f11 := r1.free 1
 have d20 : w2.cell? ⟨w.heap.size + 1 + 1, 0, none⟩ = some (.slice A1 n1 c1) := r2.cell 0
 have d21 : w2.cell? ⟨w.heap.size + 1 + 1, 1, none⟩ = some (.slice none 0 0) := r2.cell 1
 have f21 := r2.free 1
 have hne : w.heap.size + 1 + 1 ≠ w.heap.size + 1 := by omega
 have O5 := jd (((j3.far (p := w.heap.size + 1 + 1) (i := 1) (.slice A2 n2 c2) (by omega)).far (p := w.heap.size + 1) (i := 0) (.slice A1 n1 c1) (by omega)).far (p := w.heap.size + 1) (i := 1) (.slice A2 n2 c2) (by omega))
 have B5 := jd (((b03.setCell (p := ⟨w.heap.size + 1 + 1, 1, none⟩) (by show w.heap.size ≤ w.heap.size + 1 + 1; omega) (.slice A2 n2 c2)).setCell (p := ⟨w.heap.size + 1, 0, none⟩) (by simp) (.slice A1 n1 c1)).setCell (p := ⟨w.heap.size + 1, 1, none⟩) (by simp) (.slice A2 n2 c2))
 clear o2 q1 q2 o3 b3 j3 r1 r2 b03 b02 b01 b0 HSZ hv1 ca fa cb HW h1 h2
 go_wp2
 refine bodyPost_ret (v := .agg #[.slice A1 n1 c1, .slice A2 n2 c2]) (by simp [results, Tryz.results75, go_sem, d10, d11]) rfl ⟨_, _, rfl, O5.out.up (by omega), B5.out⟩
end Go.Proofs.YthjjdelpdiipdaaGreatDoor
namespace Go.Proofs.YthjjdelpdiipdaaGreatDoor
set_option maxRecDepth 100000
open Go.RowKit
/-! ### Rows -/
def rowNs (r : List Int) : List Int := r
def wrNs (p : Int × List Int) : List Int := p.1 :: p.2
set_option maxHeartbeats 1600000 in
theorem markRows_any (v : Value) (l : List (List Int)) (fp : List Nat) (w : World) (o : Ow w [keptD l] [v] fp) (hnd : fp.Nodup) (hs : rowsSz l ≤ 1048577) (k : Int) (k0 : 0 ≤ k) (k1 : k ≤ 1000000000000) :
    Calls Tryz.prog 134 #[v, .int .i64 k] w fun e w' => ∃ l', e = .returned (.int .i64 (k + (nums rowNs l l.length : Int))) ∧ Ow w' [keptD l'] [v] fp ∧ Touch fp w w' ∧ l'.map (fun r => (rowNs r).length) = l.map (fun r => (rowNs r).length) ∧ l'.flatMap rowNs = upFrom k (nums rowNs l l.length) := by
 obtain ⟨A, n, c, rfl, hl, _, _⟩ := o.rd.kept
 have HL := jd hl
 have hn : n ≤ 1048577 := by unfold rowsSz at hs; omega
 have HS := jd hs
 have O := jd o
 have HN := jd hnd
 clear o hs hnd hl
 go_enter Tryz.func134, Tryz.ntmps134
 go_wp2
 go_loopw [1, 5] (fun q i wr => ∃ (j : Nat) (l' : List (List Int)), j ≤ n ∧ i = .int .i64 (j : Int) ∧ q = .int .i64 (k + (nums rowNs l j : Int)) ∧ l'.map (fun r => (rowNs r).length) = l.map (fun r => (rowNs r).length) ∧ (l'.take j).flatMap rowNs = upFrom k (nums rowNs l j) ∧ Ow wr [keptD l'] [.slice A n c] fp ∧ Touch fp w wr) (fun _ i _ => n - (intOf i).toNat)
 case atStart => exact ⟨0, l, Nat.zero_le _, rfl, by simp [nums, pre_zero], rfl, by simp [nums, pre_zero, upFrom], O.out, Touch.refl _ _⟩
 case round =>
  obtain ⟨j, l', hj, rfl, rfl, hmap, hflat, hown, htch⟩ := hrel
  have hll : l'.length = l.length := by simpa using congrArg List.length hmap
  by_cases hlt : j < n
  · have hjl : j < l'.length := by have := HL.out; omega
    have hjl2 : j < l.length := by have := HL.out; omega
    obtain ⟨g, d, es, f2, e, _, _, he, hcell, hfr, hel, hn2, hg2, hgf, hsub, hin, _⟩ := Ow.elem (k := 1) rowC_len (by decide) hown HN.out (j := j) hjl
    injection e with e e2 e3
    subst e e3
    match es, he with
    | [y0], _ =>
    obtain ⟨A1, m1, d1, rfl, o1, rfl⟩ := hel.own
    have ck0 := hcell 0 (by decide)
    rw [Nat.add_zero, Nat.mul_one] at ck0
    have ck : wr.cell? ⟨g, j, none⟩ = some (.slice A1 m1 d1) := ck0
    have hlen : m1 = (rowNs l[j]).length := by
     have h1 := congrArg (fun q => q[j]?) hmap
     simp [List.getElem?_eq_getElem hjl, List.getElem?_eq_getElem hjl2] at h1
     rw [← h1]
     exact o1.len.symm
    have hnj : nums rowNs l (j + 1) = nums rowNs l j + m1 := by rw [hlen]; exact pre_succ hjl2
    have hb1 : nums rowNs l j + m1 ≤ 1048577 := by
     rw [hlen]
     have h1 : nums rowNs l j + (rowNs l[j]).length ≤ (l.map (fun r => (rowNs r).length)).sum := pre_at (g := fun r => (rowNs r).length) hjl2
     have h2 := HS.out
     unfold rowsSz at h2
     have h3 : (l.map (fun r => (rowNs r).length)).sum = (l.map List.length).sum := rfl
     omega
    have HJ := jd hnj
    have IN := jd hin
    have HM := jd hmap
    have HF := jd hflat
    have HT := jd htch
    have SB := jd hsub
    have HE := jd hlen
    have HLL := jd hll
    generalize hN : nums rowNs l j = N at *
    have HNN := jd hN
    clear hin hmap hflat htch hsub hcell ck0 hel hown hfr hgf hlen hnj hN hll e2
    go_wp2_with fail
    refine (mark_any A1 m1 d1 0 _ _ o1 (by omega) _ (by omega) (by omega)).mono ?_
    rintro e w1 ⟨rfl, o2, g2⟩
    have tt : Touch (Value.slice A1 m1 d1).ownBlock.toList wr w1 := Touch.of_grown g2 (fun p hp => by rw [hp]; simp)
    have R1 := jd (IN.out w1 _ tt o2.ow)
    have R2 := jd (HT.out.trans (tt.mono SB.out))
    clear IN tt o2 g2 o1
    go_wp2
    go_roundw
    case rel =>
     refine ⟨j + 1, _, by omega, by go_num, by rw [HJ.out]; go_num, ?_, ?_, R1.out, R2.out⟩
     · rw [set_map hjl ?_]
       · exact HM.out
       · show (upFrom _ m1).length = _
         rw [upFrom_length, HE.out]
         have h1 := congrArg (fun q => q[j]?) HM.out
         simp [List.getElem?_eq_getElem hjl, List.getElem?_eq_getElem hjl2] at h1
         exact h1.symm
     · have h1 := nums_map HM.out j
       have h2 := flat_step (g := rowNs) (l := l') (j := j) (k := k) (x := upFrom (k + (N : Int)) m1) hjl (by rw [h1, HNN.out]; exact HF.out) (by show upFrom _ m1 = upFrom _ (upFrom _ m1).length; rw [upFrom_length, h1, HNN.out])
       rw [h2, h1, HNN.out, HJ.out]
       show upFrom k (N + (upFrom _ m1).length) = _
       rw [upFrom_length]
    case measure => simp [intOf]; omega
  · go_wp2
    go_ret
    have hjn : j = l.length := by have := HL.out; omega
    subst hjn
    refine ⟨l', rfl, hown, htch, hmap, ?_⟩
    rw [List.take_of_length_le (by omega)] at hflat
    exact hflat
theorem Ow.write {w : World} {p : Int × List Int} {y0 y1 : Value} {f2 : List Nat} (h : Ow w (wrC p) [y0, y1] f2) : y0 = .int .i64 p.1 ∧ ∃ A m c, y1 = .slice A m c ∧ Own w 0 A m c p.2 ∧ f2 = (Value.slice A m c).ownBlock.toList := by
 cases h with
 | int h =>
  obtain ⟨A, m, c, rfl, o, rfl⟩ := Ow.own h
  exact ⟨rfl, A, m, c, rfl, o, rfl⟩
theorem waitN_eq (l : List (Int × List Int)) : (l.map (fun r => (wrNs r).length)).sum = l.length + (l.map wrSz).sum := by
 induction l with
 | nil => rfl
 | cons x l ih =>
  rw [List.map_cons, List.sum_cons, ih, List.map_cons, List.sum_cons, List.length_cons]
  show x.2.length + 1 + _ = _ + (x.2.length + _)
  omega
set_option maxHeartbeats 1600000 in
theorem markWrites_any (v : Value) (l : List (Int × List Int)) (fp : List Nat) (w : World) (o : Ow w [waitD l] [v] fp) (hnd : fp.Nodup) (hs : waitSz l ≤ 1048577) (k : Int) (k0 : 0 ≤ k) (k1 : k ≤ 1000000000000) :
    Calls Tryz.prog 135 #[v, .int .i64 k] w fun e w' => ∃ l', e = .returned (.int .i64 (k + (nums wrNs l l.length : Int))) ∧ Ow w' [waitD l'] [v] fp ∧ Touch fp w w' ∧ l'.map (fun r => (wrNs r).length) = l.map (fun r => (wrNs r).length) ∧ l'.flatMap wrNs = upFrom k (nums wrNs l l.length) := by
 obtain ⟨A, n, c, rfl, hl, _, _⟩ := o.rd.wait
 have HL := jd hl
 have hn : n ≤ 1048577 := by unfold waitSz at hs; omega
 have HS := jd hs
 have O := jd o
 have HN := jd hnd
 clear o hs hnd hl
 go_enter Tryz.func135, Tryz.ntmps135
 go_wp2
 go_loopw [1, 5] (fun q i wr => ∃ (j : Nat) (l' : List (Int × List Int)), j ≤ n ∧ i = .int .i64 (j : Int) ∧ q = .int .i64 (k + (nums wrNs l j : Int)) ∧ l'.map (fun r => (wrNs r).length) = l.map (fun r => (wrNs r).length) ∧ (l'.take j).flatMap wrNs = upFrom k (nums wrNs l j) ∧ Ow wr [waitD l'] [.slice A n c] fp ∧ Touch fp w wr) (fun _ i _ => n - (intOf i).toNat)
 case atStart => exact ⟨0, l, Nat.zero_le _, rfl, by simp [nums, pre_zero], rfl, by simp [nums, pre_zero, upFrom], O.out, Touch.refl _ _⟩
 case round =>
  obtain ⟨j, l', hj, rfl, rfl, hmap, hflat, hown, htch⟩ := hrel
  have hll : l'.length = l.length := by simpa using congrArg List.length hmap
  by_cases hlt : j < n
  · have hjl : j < l'.length := by have := HL.out; omega
    have hjl2 : j < l.length := by have := HL.out; omega
    have hlen0 : (wrNs l'[j]).length = (wrNs l[j]).length := by
     have h1 := congrArg (fun q => q[j]?) hmap
     simp [List.getElem?_eq_getElem hjl, List.getElem?_eq_getElem hjl2] at h1
     exact h1
    obtain ⟨g, d, es, f2, e, _, _, he, hcell, hfr, hel, hn2, hg2, hgf, hsub, _, hset⟩ := Ow.elem (k := 2) wrC_len (by decide) hown HN.out (j := j) hjl
    injection e with e e2 e3
    subst e e3
    match es, he with
    | [y0, y1], _ =>
    obtain ⟨rfl, A1, m1, d1, rfl, o1, rfl⟩ := hel.write
    have ck0 := hcell 0 (by decide)
    rw [Nat.add_zero] at ck0
    have ck : wr.cell? ⟨g, j * 2, none⟩ = some (.int .i64 l'[j].1) := ck0
    have fk := hfr (j * 2)
    have hlen : m1 + 1 = (wrNs l[j]).length := by
     rw [← hlen0]
     show m1 + 1 = l'[j].2.length + 1
     rw [o1.len]
    have hnj : nums wrNs l (j + 1) = nums wrNs l j + (m1 + 1) := by rw [hlen]; exact pre_succ hjl2
    have hb1 : nums wrNs l j + (m1 + 1) ≤ 1048577 := by
     rw [hlen]
     have h1 : nums wrNs l j + (wrNs l[j]).length ≤ (l.map (fun r => (wrNs r).length)).sum := pre_at (g := fun r => (wrNs r).length) hjl2
     have h2 := HS.out
     unfold waitSz at h2
     have h3 := waitN_eq l
     omega
    generalize hN : nums wrNs l j = N at *
    generalize hx0 : l'[j].1 = x0 at *
    generalize hxr : l'[j].2 = xr at *
    have tg : Touch [g] wr (wr.setCell ⟨g, j * 2, none⟩ (.int .i64 (k + (N : Int)))) := Touch.of_set (by simp)
    have o2 := o1.touch tg (fun p hp hm => hg2 (by have : p = g := by simpa using hm
                                                   rw [← this]; exact hp))
    have hown2 := hset 0 (.int .i64 (k + (N : Int))) (k + (N : Int), xr) (by decide) (by
     rw [Nat.add_zero]
     exact .int o2.ow)
    rw [Nat.add_zero] at hown2
    have t2 := htch.trans (tg.mono (fun p hp => by have : p = g := by simpa using hp
                                                   rw [this]; exact hgf))
    generalize hw2 : wr.setCell ⟨g, j * 2, none⟩ (.int .i64 (k + (N : Int))) = w2 at *
    obtain ⟨g', d', es', f2', e', _, _, he', hcell', _, hel', _, _, _, hsub', hin', _⟩ := Ow.elem (k := 2) wrC_len (by decide) hown2 HN.out (j := j) (by simpa using hjl)
    injection e' with e' e2' e3'
    injection e' with e'
    injection e' with e' _
    subst e' e3'
    match es', he' with
    | [z0, z1], _ =>
    have hget : (l'.set j (k + (N : Int), xr))[j]'(by simpa using hjl) = (k + (N : Int), xr) := by simp
    rw [hget] at hel'
    obtain ⟨hz0, A2, m2, d2, rfl, o3, rfl⟩ := hel'.write
    have cz := hcell' 1 (by decide)
    have cy := hcell 1 (by decide)
    have ck1 : wr.cell? ⟨g, j * 2 + 1, none⟩ = some (.slice A1 m1 d1) := cy
    have ck2 : w2.cell? ⟨g, j * 2 + 1, none⟩ = some (.slice A2 m2 d2) := cz
    have ck3 : w2.cell? ⟨g, j * 2 + 1, none⟩ = some (.slice A1 m1 d1) := by
     rw [← hw2]
     exact (World.cell?_setCell_other wr ⟨g, j * 2, none⟩ ⟨g, j * 2 + 1, none⟩ _ (by simp)).trans ck1
    rw [ck2] at ck3
    injection ck3 with ck3
    injection ck3 with a1 a2 a3
    subst a1 a2 a3
    have HJ := jd hnj
    have IN := jd hin'
    have HM := jd hmap
    have HF := jd hflat
    have HT := jd t2
    have SB := jd hsub'
    have HE := jd hlen
    have HLL := jd hll
    have HNN := jd hN
    have HL0 := jd hlen0
    have HZ := jd hz0
    have HW2 := jd hw2
    clear hin' hmap hflat htch hsub hsub' hcell hcell' ck0 hel hel' hown hown2 hfr hgf hlen hnj hN hll e2 e2' hset hget cz tg t2 o2 hlen0 hz0 hx0 hxr hw2 o1 cy ck2
    go_wp2_with fail
    rw [HW2.out]
    refine (mark_any A2 m2 d2 0 _ _ o3 (by omega) _ (by omega) (by omega)).mono ?_
    rintro e w3 ⟨rfl, o4, g4⟩
    have tt : Touch (Value.slice A2 m2 d2).ownBlock.toList w2 w3 := Touch.of_grown g4 (fun p hp => by rw [hp]; simp)
    have R1 := jd (show Ow w3 [waitD (l'.set j (k + (N : Int), upFrom (k + (N : Int) + 1) m2))] [.slice (some ⟨g, 0, none⟩) n c] fp by
     have h1 := IN.out w3 (k + (N : Int), upFrom (k + (N : Int) + 1) m2) tt (by
      rw [HZ.out]
      exact .int o4.ow)
     rw [List.set_set] at h1
     exact h1)
    have R2 := jd (HT.out.trans (tt.mono SB.out))
    clear IN tt o4 g4 o3
    go_wp2
    go_roundw
    case rel =>
     refine ⟨j + 1, _, by omega, by go_num, by rw [HJ.out]; go_num, ?_, ?_, R1.out, R2.out⟩
     · rw [set_map hjl ?_]
       · exact HM.out
       · show (upFrom _ m2).length + 1 = _
         rw [upFrom_length, HE.out, HL0.out]
     · have h1 := nums_map HM.out j
       have h2 := flat_step (g := wrNs) (l := l') (j := j) (k := k) (x := (k + (N : Int), upFrom (k + (N : Int) + 1) m2)) hjl (by rw [h1, HNN.out]; exact HF.out) (by
        rw [h1, HNN.out]
        show (k + (N : Int)) :: upFrom (k + (N : Int) + 1) m2 = upFrom (k + (N : Int)) ((upFrom (k + (N : Int) + 1) m2).length + 1)
        rw [upFrom_length, Nat.add_comm m2 1, upFrom_add]
        simp [upFrom])
       rw [h2, h1, HNN.out, HJ.out]
       show upFrom k (N + ((upFrom _ m2).length + 1)) = _
       rw [upFrom_length]
    case measure => simp [intOf]; omega
  · go_wp2
    go_ret
    have hjn : j = l.length := by have := HL.out; omega
    subst hjn
    refine ⟨l', rfl, hown, htch, hmap, ?_⟩
    rw [List.take_of_length_le (by omega)] at hflat
    exact hflat
set_option maxHeartbeats 1600000 in
theorem heldRows_any (v : Value) (l : List (List Int)) (B : Nat) (w : World) (h : Rd w B [keptD l] [v]) (hs : rowsSz l ≤ 1048577) (k : Int) (k0 : 0 ≤ k) (k1 : k ≤ 1000000000000) (hm : l.flatMap rowNs = upFrom k (l.flatMap rowNs).length) :
    Calls Tryz.prog 142 #[v, .int .i64 k] w fun e w' => e = .returned (.int .i64 (k + (nums rowNs l l.length : Int))) ∧ w = w' := by
 obtain ⟨A, n, c, rfl, hl, _, _, hel⟩ := h.kept
 have HL := jd hl
 have hn : n ≤ 1048577 := by unfold rowsSz at hs; omega
 have HS := jd hs
 have HM := jd hm
 clear hs hl hm h
 go_enter Tryz.func142, Tryz.ntmps142
 go_wp2
 go_loop [1, 5] (fun q i => ∃ j : Nat, j ≤ n ∧ i = .int .i64 (j : Int) ∧ q = .int .i64 (k + (nums rowNs l j : Int))) (fun _ i => n - (intOf i).toNat)
 case atStart => exact ⟨0, Nat.zero_le _, rfl, by simp [nums, pre_zero]⟩
 case round =>
  obtain ⟨j, hj, rfl, rfl⟩ := hrel
  by_cases hlt : j < n
  · obtain ⟨b, off, rfl, hb, hc⟩ := hel (by omega)
    have hjl : j < l.length := by have := HL.out; omega
    obtain ⟨A1, m1, d1, hcell, hrow, _⟩ := hc j hjl
    have hat := flat_at HM.out hjl
    have hml : m1 = (rowNs l[j]).length := hrow.1.symm
    have hr : IRow w B A1 m1 (upFrom (k + (nums rowNs l j : Int)) m1) := by
     have : l[j] = upFrom (k + (nums rowNs l j : Int)) m1 := by rw [hml]; exact hat
     rw [← this]
     exact hrow
    have hnj : nums rowNs l (j + 1) = nums rowNs l j + m1 := by rw [hml]; exact pre_succ hjl
    have hb1 : nums rowNs l j + m1 ≤ 1048577 := by
     rw [hml]
     have h1 : nums rowNs l j + (rowNs l[j]).length ≤ (l.map (fun r => (rowNs r).length)).sum := pre_at (g := fun r => (rowNs r).length) hjl
     have h2 := HS.out
     unfold rowsSz at h2
     have h3 : (l.map (fun r => (rowNs r).length)).sum = (l.map List.length).sum := rfl
     omega
    have HJ := jd hnj
    clear hc hat hml hrow hnj hel
    go_wp2_with fail
    refine (held_any A1 m1 d1 _ _ _ hr (by omega) (by omega) (by omega)).mono ?_
    rintro e w1 ⟨rfl, rfl⟩
    have q0 : ¬ (k + (nums rowNs l j : Int) + (m1 : Int) < 0) := by omega
    go_wp2
    go_round
    case rel => exact ⟨j + 1, by omega, by go_num, by rw [HJ.out]; go_num⟩
    case measure => simp [intOf]; omega
  · go_wp2
    go_ret
    have hjn : j = l.length := by have := HL.out; omega
    subst hjn
    exact ⟨rfl, rfl⟩
set_option maxHeartbeats 1600000 in
theorem heldWrites_any (v : Value) (l : List (Int × List Int)) (B : Nat) (w : World) (h : Rd w B [waitD l] [v]) (hs : waitSz l ≤ 1048577) (k : Int) (k0 : 0 ≤ k) (k1 : k ≤ 1000000000000) (hm : l.flatMap wrNs = upFrom k (l.flatMap wrNs).length) :
    Calls Tryz.prog 143 #[v, .int .i64 k] w fun e w' => e = .returned (.int .i64 (k + (nums wrNs l l.length : Int))) ∧ w = w' := by
 obtain ⟨A, n, c, rfl, hl, _, _, hel⟩ := h.wait
 have HL := jd hl
 have hn : n ≤ 1048577 := by unfold waitSz at hs; omega
 have HS := jd hs
 have HM := jd hm
 clear hs hl hm h
 go_enter Tryz.func143, Tryz.ntmps143
 go_wp2
 go_loop [1, 5] (fun q i => ∃ j : Nat, j ≤ n ∧ i = .int .i64 (j : Int) ∧ q = .int .i64 (k + (nums wrNs l j : Int))) (fun _ i => n - (intOf i).toNat)
 case atStart => exact ⟨0, Nat.zero_le _, rfl, by simp [nums, pre_zero]⟩
 case round =>
  obtain ⟨j, hj, rfl, rfl⟩ := hrel
  by_cases hlt : j < n
  · obtain ⟨b, off, rfl, hb, hc⟩ := hel (by omega)
    have hjl : j < l.length := by have := HL.out; omega
    obtain ⟨A1, m1, d1, hcell, hcell2, hrow, _⟩ := hc j hjl
    have hat := flat_at HM.out hjl
    have hml : m1 = l[j].2.length := hrow.1.symm
    have hat2 : l[j].1 :: l[j].2 = upFrom (k + (nums wrNs l j : Int)) (1 + l[j].2.length) := by
     have : (wrNs l[j]).length = 1 + l[j].2.length := Nat.add_comm _ _
     rw [← this]
     exact hat
    rw [upFrom_add] at hat2
    have hat3 : l[j].1 :: l[j].2 = (k + (nums wrNs l j : Int)) :: upFrom (k + (nums wrNs l j : Int) + 1) l[j].2.length := by
     rw [hat2]
     simp [upFrom]
    injection hat3 with ha1 ha2
    have hr : IRow w B A1 m1 (upFrom (k + (nums wrNs l j : Int) + 1) m1) := by
     rw [hml, ← ha2, ← hml]
     exact hrow
    rw [ha1] at hcell
    have hnj : nums wrNs l (j + 1) = nums wrNs l j + (m1 + 1) := by rw [hml]; exact pre_succ hjl
    have hb1 : nums wrNs l j + (m1 + 1) ≤ 1048577 := by
     rw [hml]
     have h1 : nums wrNs l j + (wrNs l[j]).length ≤ (l.map (fun r => (wrNs r).length)).sum := pre_at (g := fun r => (wrNs r).length) hjl
     have h2 := HS.out
     unfold waitSz at h2
     have h3 := waitN_eq l
     have h4 : (wrNs l[j]).length = l[j].2.length + 1 := rfl
     omega
    have HJ := jd hnj
    clear hc hat hat2 ha1 ha2 hml hrow hnj hel
    go_wp2_with fail
    refine (held_any A1 m1 d1 _ _ _ hr (by omega) (by omega) (by omega)).mono ?_
    rintro e w1 ⟨rfl, rfl⟩
    have q0 : ¬ (k + (nums wrNs l j : Int) + 1 + (m1 : Int) < 0) := by omega
    go_wp2
    go_round
    case rel => exact ⟨j + 1, by omega, by go_num, by rw [HJ.out]; go_num⟩
    case measure => simp [intOf]; omega
  · go_wp2
    go_ret
    have hjn : j = l.length := by have := HL.out; omega
    subst hjn
    exact ⟨rfl, rfl⟩
end Go.Proofs.YthjjdelpdiipdaaGreatDoor
namespace Go.Proofs.YthjjdelpdiipdaaGreatDoor
set_option maxRecDepth 100000
open Go.RowKit
def DiskM.n (d : DiskM) : Nat := nums rowNs d.kept d.kept.length + nums wrNs d.wait d.wait.length
def MarkedD (d : DiskM) (k : Int) : Prop := d.kept.flatMap rowNs = upFrom k (d.kept.flatMap rowNs).length ∧ d.wait.flatMap wrNs = upFrom (k + (nums rowNs d.kept d.kept.length : Int)) (d.wait.flatMap wrNs).length
theorem rowsSz_map {l l' : List (List Int)} (h : l'.map (fun r => (rowNs r).length) = l.map (fun r => (rowNs r).length)) : rowsSz l' = rowsSz l := by
 have hl : l'.length = l.length := by simpa using congrArg List.length h
 have h1 : l'.map List.length = l.map List.length := h
 unfold rowsSz
 rw [h1, hl]
theorem waitSz_eq (l : List (Int × List Int)) : waitSz l = (l.map (fun r => (wrNs r).length)).sum := (waitN_eq l).symm
theorem waitSz_map {l l' : List (Int × List Int)} (h : l'.map (fun r => (wrNs r).length) = l.map (fun r => (wrNs r).length)) : waitSz l' = waitSz l := by rw [waitSz_eq, waitSz_eq, h]
theorem nums_le_rows (l : List (List Int)) : nums rowNs l l.length ≤ rowsSz l := by
 unfold nums rowsSz
 rw [pre_all]
 exact Nat.le_add_left _ _
theorem nums_le_wait (l : List (Int × List Int)) : nums wrNs l l.length = waitSz l := by
 unfold nums
 rw [pre_all, waitSz_eq]
set_option maxHeartbeats 1600000 in
theorem markDisk_any (v0 v1 : Value) (d : DiskM) (fp : List Nat) (w : World) (o : Ow w d.cells [v0, v1] fp) (hnd : fp.Nodup) (hs : d.sz ≤ 1048577) (k : Int) (k0 : 0 ≤ k) (k1 : k ≤ 100000000000) :
    Calls Tryz.prog 94 #[.agg #[v0, v1], .int .i64 k] w fun e w' => ∃ d', e = .returned (.int .i64 (k + (d.n : Int))) ∧ Ow w' d'.cells [v0, v1] fp ∧ Touch fp w w' ∧ MarkedD d' k ∧ d'.n = d.n ∧ d'.sz = d.sz := by
 obtain ⟨A, n, c, A', n', c', rfl, rfl, _, _⟩ := o.rd.disk
 have hk : rowsSz d.kept ≤ 1048577 := by unfold DiskM.sz at hs; omega
 have hw : waitSz d.wait ≤ 1048577 := by unfold DiskM.sz at hs; omega
 have hk2 := nums_le_rows d.kept
 obtain ⟨w0, hw0⟩ : ∃ w0, w0 = w.alloc (.cells #[.slice A n c, .slice A' n' c'] 41) := ⟨_, rfl⟩
 have b0 : Below w.heap.size w w0 := by rw [hw0]; exact (Below.refl _ w).alloc (Nat.le_refl _) _
 have p0 : Blk w0 w.heap.size #[.slice A n c, .slice A' n' c'] 41 := by rw [hw0]; exact Blk.new w _ _
 have hlt := o.lt
 obtain ⟨x1, x2, f1, f2, ex, rfl, o1, o2⟩ := Ow.split (ds := [keptD d.kept]) (ds' := [waitD d.wait]) (o.keep b0)
 have l1 := o1.len
 have l2 := o2.len
 match x1, x2, l1, l2 with
 | [y1], [y2], _, _ =>
 injection ex with e1 e2
 injection e2 with e2 _
 subst e1 e2
 rw [List.nodup_append] at hnd
 obtain ⟨hn1, hn2, hdis⟩ := hnd
 have HW := jd hw0
 clear hw0 o hs
 go_enter Tryz.func94, Tryz.ntmps94
 go_wp2_with fail
 rw [← HW.out]
 refine (markRows_any _ d.kept f1 _ o1 hn1 hk k k0 (by omega)).mono ?_
 rintro e w1 ⟨l', rfl, q1, t1, m1, m2⟩
 have q2 := o2.touch t1 (fun p hp hm => hdis p hm p hp rfl)
 have p1 := p0.touch t1 (fun hm => by have := hlt _ (List.mem_append_left _ hm); omega)
 have c1 : w1.cell? ⟨w.heap.size, 1, none⟩ = some (.slice A' n' c') := p1.cell 1
 clear p0 p1 o1 o2
 go_wp2_with fail
 refine (markWrites_any _ d.wait f2 _ q2 hn2 hw _ (by omega) (by omega)).mono ?_
 rintro e w2 ⟨m', rfl, r2, t2, m3, m4⟩
 have r1 := q1.touch t2 (fun p hp hm => hdis p hp p hm rfl)
 have T := jd (((Touch.of_below b0 (f1 ++ f2)).trans (t1.mono fun p hp => List.mem_append_left _ hp)).trans (t2.mono fun p hp => List.mem_append_right _ hp))
 have R := jd (Ow.append r1 r2)
 have M1 := jd m1
 have M2 := jd m2
 have M3 := jd m3
 have M4 := jd m4
 clear q1 q2 r1 r2 t1 t2 m1 m2 m3 m4 c1
 go_wp2
 go_ret
 have en1 := nums_map M1.out d.kept.length
 have en2 := nums_map M3.out d.wait.length
 have el1 := len_of_map M1.out
 have el2 := len_of_map M3.out
 rw [← el1] at en1
 rw [← el2] at en2
 refine ⟨⟨l', m'⟩, ?_, R.out, T.out, ⟨?_, ?_⟩, ?_, ?_⟩
 · refine congrArg Ending.returned (congrArg (Value.int .i64) ?_)
   show _ = k + ((nums rowNs d.kept d.kept.length + nums wrNs d.wait d.wait.length : Nat) : Int)
   omega
 · show l'.flatMap rowNs = upFrom k (l'.flatMap rowNs).length
   rw [M2.out, upFrom_length]
 · show m'.flatMap wrNs = upFrom (k + (nums rowNs l' l'.length : Int)) (m'.flatMap wrNs).length
   rw [M4.out, upFrom_length, en1, el1]
 · show nums rowNs l' l'.length + nums wrNs m' m'.length = nums rowNs d.kept d.kept.length + nums wrNs d.wait d.wait.length
   rw [en1, en2, el1, el2]
 · show rowsSz l' + waitSz m' = rowsSz d.kept + waitSz d.wait
   rw [rowsSz_map M1.out, waitSz_map M3.out]
set_option maxHeartbeats 1600000 in
theorem heldDisk_any (v0 v1 : Value) (d : DiskM) (B : Nat) (w : World) (h : Rd w B d.cells [v0, v1]) (hB : B ≤ w.heap.size) (hs : d.sz ≤ 1048577) (k : Int) (k0 : 0 ≤ k) (k1 : k ≤ 100000000000) (hm : MarkedD d k) :
    Calls Tryz.prog 102 #[.agg #[v0, v1], .int .i64 k] w fun e w' => e = .returned (.int .i64 (k + (d.n : Int))) ∧ Below w.heap.size w w' := by
 obtain ⟨A, n, c, A', n', c', rfl, rfl, h1, h2⟩ := h.disk
 have hk : rowsSz d.kept ≤ 1048577 := by unfold DiskM.sz at hs; omega
 have hw : waitSz d.wait ≤ 1048577 := by unfold DiskM.sz at hs; omega
 have hk2 := nums_le_rows d.kept
 have hk3 := nums_le_wait d.wait
 have b0 : Below w.heap.size w (w.alloc (.cells #[.slice A n c, .slice A' n' c'] 41)) := (Below.refl _ w).alloc (Nat.le_refl _) _
 have r1 := h1.keep (b0.mono hB)
 have r2 := h2.keep (b0.mono hB)
 have B0 := jd b0
 obtain ⟨m1, m2⟩ := hm
 have M2 := jd m2
 have HD := jd (show d.n = nums rowNs d.kept d.kept.length + nums wrNs d.wait d.wait.length from rfl)
 clear h h1 h2 b0 hs m2
 go_enter Tryz.func102, Tryz.ntmps102
 go_wp2_with fail
 refine (heldRows_any _ d.kept B _ r1 hk k k0 (by omega) m1).mono ?_
 rintro e w1 ⟨rfl, rfl⟩
 have q0 : ¬ (k + (nums rowNs d.kept d.kept.length : Int) < 0) := by omega
 clear r1 m1
 go_wp2_with fail
 refine (heldWrites_any _ d.wait B _ r2 hw _ (by omega) (by omega) M2.out).mono ?_
 rintro e w2 ⟨rfl, rfl⟩
 have q1 : ¬ (k + (nums rowNs d.kept d.kept.length : Int) + (nums wrNs d.wait d.wait.length : Int) < 0) := by omega
 clear r2
 go_wp2
 go_ret
 refine ⟨congrArg Ending.returned (congrArg (Value.int .i64) ?_), B0.out⟩
 rw [HD.out]
 omega
/-! ### Counting -/
theorem szWrite_any (x : Int) (A : Option Addr) (m c : Nat) (L : Int) (w : World) (l0 : 0 ≤ L) (l1 : L ≤ 1048576) (hm : m ≤ maxLen) :
    Calls Tryz.prog 145 #[.agg #[.int .i64 x, .slice A m c], .int .i64 L] w fun e w' => e = .returned (.int .i64 (left L m)) ∧ Below w.heap.size w w' := by
 have B0 := jd ((Below.refl w.heap.size w).alloc (Nat.le_refl _) (.cells #[.int .i64 x, .slice A m c] 170))
 by_cases h : (m : Int) ≤ L
 · have HL := jd (show left L m = L - (m : Int) by rw [left, if_pos h])
   go_enter Tryz.func145, Tryz.ntmps145
   go_wp2_with fail
   refine (szRow_any A m c L _ l0 l1 hm).mono ?_
   rintro e w1 ⟨rfl, rfl⟩
   rw [HL.out]
   have q0 : ¬ (L - (m : Int) < 0) := by omega
   go_wp2
   go_ret
   exact ⟨ret_i64 HL.out.symm, B0.out⟩
 · have HL := jd (show left L m = -1 by rw [left, if_neg h])
   go_enter Tryz.func145, Tryz.ntmps145
   go_wp2_with fail
   refine (szRow_any A m c L _ l0 l1 hm).mono ?_
   rintro e w1 ⟨rfl, rfl⟩
   rw [HL.out]
   go_wp2
   go_ret
   exact ⟨ret_i64 HL.out.symm, B0.out⟩
set_option maxHeartbeats 1600000 in
theorem szRows_any (A : Option Addr) (n c B : Nat) (l : List (List Int)) (L : Int) (w : World) (h : Rd w B [keptD l] [.slice A n c]) (l0 : 0 ≤ L) (l1 : L ≤ 1048576) :
    Calls Tryz.prog 103 #[.slice A n c, .int .i64 L] w fun e w' => e = .returned (.int .i64 (left L (rowsSz l))) ∧ w = w' := by
 obtain ⟨_, _, _, e, hl, hnc, hcm, hel⟩ := h.kept
 injection e with e1 e2 e3
 subst e1 e2 e3
 have hnm : n ≤ maxLen := Nat.le_trans hnc hcm
 unfold maxLen at hnm
 have HL := jd hl
 clear h hl
 by_cases hbig : L < (n : Int)
 · have HZ := jd (show left L (rowsSz l) = -1 by
     unfold left rowsSz
     rw [if_neg]
     have := HL.out
     omega)
   clear hel
   go_enter Tryz.func103, Tryz.ntmps103
   go_wp2
   go_ret
   exact ⟨ret_i64 HZ.out.symm, rfl⟩
 · go_enter Tryz.func103, Tryz.ntmps103
   go_wp2
   go_loop [1, 5] (fun q i => ∃ j : Nat, j ≤ n ∧ i = .int .i64 (j : Int) ∧ (n : Int) + (pre List.length l j : Int) ≤ L ∧ q = .int .i64 (L - ((n : Int) + (pre List.length l j : Int)))) (fun _ i => n - (intOf i).toNat)
   case atStart => exact ⟨0, Nat.zero_le _, rfl, by rw [pre_zero]; omega, by rw [pre_zero]; go_num⟩
   case round =>
    obtain ⟨j, hj, rfl, hle, rfl⟩ := hrel
    by_cases hlt : j < n
    · obtain ⟨b, off, rfl, hb, hc⟩ := hel (by omega)
      have hjl : j < l.length := by have := HL.out; omega
      obtain ⟨A1, m1, d1, hcell, hrow, hm1, hm2⟩ := hc j hjl
      have hml := hrow.1
      have hs : pre List.length l (j + 1) = pre List.length l j + m1 := by rw [pre_succ hjl, hml]
      have hmono := pre_at (g := List.length) hjl
      rw [hml] at hmono
      have HSum := jd hmono
      have HJ := jd hs
      have hmm : m1 ≤ maxLen := Nat.le_trans hm1 hm2
      generalize hP : pre List.length l j = P at *
      clear hc hrow hml hs hmono hel hm1 hm2 hP
      by_cases hfit : (m1 : Int) ≤ L - ((n : Int) + (P : Int))
      · have HF := jd (show left (L - ((n : Int) + (P : Int))) m1 = L - ((n : Int) + (P : Int)) - (m1 : Int) by rw [left, if_pos hfit])
        go_wp2_with fail
        refine (szRow_any A1 m1 d1 _ _ (by omega) (by omega) hmm).mono ?_
        rintro e w1 ⟨rfl, rfl⟩
        rw [HF.out]
        have q0 : ¬ (L - ((n : Int) + (P : Int)) - (m1 : Int) < 0) := by omega
        go_wp2
        go_round
        case rel => exact ⟨j + 1, by omega, by go_num, by rw [HJ.out]; omega, by rw [HJ.out]; go_num⟩
        case measure => simp [intOf]; omega
      · have HF := jd (show left (L - ((n : Int) + (P : Int))) m1 = -1 by rw [left, if_neg hfit])
        have HZ := jd (show left L (rowsSz l) = -1 by
         unfold left rowsSz
         rw [if_neg]
         have h1 := HL.out
         have h2 := HSum.out
         omega)
        go_wp2_with fail
        refine (szRow_any A1 m1 d1 _ _ (by omega) (by omega) hmm).mono ?_
        rintro e w1 ⟨rfl, rfl⟩
        rw [HF.out]
        go_wp2
        go_ret
        exact ⟨ret_i64 HZ.out.symm, rfl⟩
    · go_wp2
      go_ret
      have hjn : j = l.length := by have := HL.out; omega
      refine ⟨ret_i64 ?_, rfl⟩
      subst hjn
      rw [pre_all] at hle ⊢
      unfold left rowsSz
      have h1 := HL.out
      rw [if_pos (by omega)]
      omega
set_option maxHeartbeats 1600000 in
theorem szWrites_any (A : Option Addr) (n c B : Nat) (l : List (Int × List Int)) (L : Int) (w : World) (h : Rd w B [waitD l] [.slice A n c]) (hB : B ≤ w.heap.size) (l0 : 0 ≤ L) (l1 : L ≤ 1048576) :
    Calls Tryz.prog 104 #[.slice A n c, .int .i64 L] w fun e w' => e = .returned (.int .i64 (left L (waitSz l))) ∧ Below w.heap.size w w' := by
 obtain ⟨_, _, _, e, hl, hnc, hcm, hel⟩ := h.wait
 injection e with e1 e2 e3
 subst e1 e2 e3
 have hnm : n ≤ maxLen := Nat.le_trans hnc hcm
 unfold maxLen at hnm
 have HL := jd hl
 clear h hl
 by_cases hbig : L < (n : Int)
 · have HZ := jd (show left L (waitSz l) = -1 by
     unfold left waitSz
     rw [if_neg]
     have := HL.out
     omega)
   clear hel
   go_enter Tryz.func104, Tryz.ntmps104
   go_wp2
   go_ret
   exact ⟨ret_i64 HZ.out.symm, Below.refl _ _⟩
 · go_enter Tryz.func104, Tryz.ntmps104
   go_wp2
   go_loopw [1, 5] (fun q i wr => ∃ j : Nat, j ≤ n ∧ i = .int .i64 (j : Int) ∧ (n : Int) + (pre wrSz l j : Int) ≤ L ∧ q = .int .i64 (L - ((n : Int) + (pre wrSz l j : Int))) ∧ Below w.heap.size w wr) (fun _ i _ => n - (intOf i).toNat)
   case atStart => exact ⟨0, Nat.zero_le _, rfl, by rw [pre_zero]; omega, by rw [pre_zero]; go_num, Below.refl _ _⟩
   case round =>
    obtain ⟨j, hj, rfl, hle, rfl, hbel⟩ := hrel
    by_cases hlt : j < n
    · obtain ⟨b, off, rfl, hb, hc⟩ := hel (by omega)
      have hjl : j < l.length := by have := HL.out; omega
      obtain ⟨A1, m1, d1, hcell, hcell2, hrow, hm1, hm2⟩ := hc j hjl
      have cs0 := (hbel.cell (p := ⟨b, off + j * 2, none⟩) (show b < _ by omega)).trans hcell
      have cs1 := (hbel.cell (p := ⟨b, off + j * 2 + 1, none⟩) (show b < _ by omega)).trans hcell2
      have hml : wrSz l[j] = m1 := hrow.1
      have hs : pre wrSz l (j + 1) = pre wrSz l j + m1 := by rw [pre_succ hjl, hml]
      have hmono := pre_at (g := wrSz) hjl
      rw [hml] at hmono
      have HSum := jd hmono
      have HJ := jd hs
      have hmm : m1 ≤ maxLen := Nat.le_trans hm1 hm2
      generalize hP : pre wrSz l j = P at *
      generalize l[j].1 = x at *
      have HB := jd hbel
      clear hc hrow hml hs hmono hel hm1 hm2 hP hcell hcell2 hbel
      by_cases hfit : (m1 : Int) ≤ L - ((n : Int) + (P : Int))
      · have HF := jd (show left (L - ((n : Int) + (P : Int))) m1 = L - ((n : Int) + (P : Int)) - (m1 : Int) by rw [left, if_pos hfit])
        go_wp2_with fail
        refine (szWrite_any x A1 m1 d1 _ _ (by omega) (by omega) hmm).mono ?_
        rintro e w1 ⟨rfl, b1⟩
        rw [HF.out]
        have B1 := jd (HB.out.trans (b1.mono HB.out.size))
        have q0 : ¬ (L - ((n : Int) + (P : Int)) - (m1 : Int) < 0) := by omega
        clear b1
        go_wp2
        go_roundw
        case rel => exact ⟨j + 1, by omega, by go_num, by rw [HJ.out]; omega, by rw [HJ.out]; go_num, B1.out⟩
        case measure => simp [intOf]; omega
      · have HF := jd (show left (L - ((n : Int) + (P : Int))) m1 = -1 by rw [left, if_neg hfit])
        have HZ := jd (show left L (waitSz l) = -1 by
         unfold left waitSz
         rw [if_neg]
         have h1 := HL.out
         have h2 := HSum.out
         omega)
        go_wp2_with fail
        refine (szWrite_any x A1 m1 d1 _ _ (by omega) (by omega) hmm).mono ?_
        rintro e w1 ⟨rfl, b1⟩
        rw [HF.out]
        have B1 := jd (HB.out.trans (b1.mono HB.out.size))
        clear b1
        go_wp2
        go_ret
        exact ⟨ret_i64 HZ.out.symm, B1.out⟩
    · go_wp2
      go_ret
      have hjn : j = l.length := by have := HL.out; omega
      refine ⟨ret_i64 ?_, hbel⟩
      subst hjn
      rw [pre_all] at hle ⊢
      unfold left waitSz
      have h1 := HL.out
      rw [if_pos (by omega)]
      omega
set_option maxHeartbeats 1600000 in
theorem szDisk_any (v0 v1 : Value) (d : DiskM) (B : Nat) (L : Int) (w : World) (h : Rd w B d.cells [v0, v1]) (hB : B ≤ w.heap.size) (l0 : 0 ≤ L) (l1 : L ≤ 1048576) :
    Calls Tryz.prog 64 #[.agg #[v0, v1], .int .i64 L] w fun e w' => e = .returned (.int .i64 (left L d.sz)) ∧ Below w.heap.size w w' := by
 obtain ⟨A, n, c, A', n', c', rfl, rfl, h1, h2⟩ := h.disk
 have b0 : Below w.heap.size w (w.alloc (.cells #[.slice A n c, .slice A' n' c'] 25)) := (Below.refl _ w).alloc (Nat.le_refl _) _
 have r1 := h1.keep (b0.mono hB)
 have r2 := h2.keep (b0.mono hB)
 have B0 := jd b0
 have HD := jd (show d.sz = rowsSz d.kept + waitSz d.wait from rfl)
 clear h h1 h2 b0
 by_cases hf1 : (rowsSz d.kept : Int) ≤ L
 · have HF := jd (show left L (rowsSz d.kept) = L - (rowsSz d.kept : Int) by rw [left, if_pos hf1])
   go_enter Tryz.func64, Tryz.ntmps64
   go_wp2_with fail
   refine (szRows_any A n c B d.kept L _ r1 l0 l1).mono ?_
   rintro e w1 ⟨rfl, rfl⟩
   rw [HF.out]
   have q0 : ¬ (L - (rowsSz d.kept : Int) < 0) := by omega
   clear r1
   go_wp2_with fail
   refine (szWrites_any A' n' c' B d.wait _ _ r2 (by simp; omega) (by omega) (by omega)).mono ?_
   rintro e w2 ⟨rfl, b2⟩
   have B2 := jd (B0.out.trans (b2.mono B0.out.size))
   clear b2 r2
   by_cases hf2 : (waitSz d.wait : Int) ≤ L - (rowsSz d.kept : Int)
   · rw [left, if_pos hf2]
     have q1 : ¬ (L - (rowsSz d.kept : Int) - (waitSz d.wait : Int) < 0) := by omega
     go_wp2
     go_ret
     refine ⟨ret_i64 ?_, B2.out⟩
     rw [left, HD.out, if_pos (by omega)]
     omega
   · rw [left, if_neg hf2]
     go_wp2
     go_ret
     refine ⟨ret_i64 ?_, B2.out⟩
     rw [left, HD.out, if_neg (by omega)]
 · have HF := jd (show left L (rowsSz d.kept) = -1 by rw [left, if_neg hf1])
   go_enter Tryz.func64, Tryz.ntmps64
   go_wp2_with fail
   refine (szRows_any A n c B d.kept L _ r1 l0 l1).mono ?_
   rintro e w1 ⟨rfl, rfl⟩
   rw [HF.out]
   clear r1 r2
   go_wp2
   go_ret
   refine ⟨ret_i64 ?_, B0.out⟩
   rw [left, HD.out, if_neg (by omega)]
end Go.Proofs.YthjjdelpdiipdaaGreatDoor
namespace Go.Proofs.YthjjdelpdiipdaaGreatDoor
set_option maxRecDepth 100000
open Go.RowKit
def MadeD (w : World) (d : DiskM) (e : Ending) (w' : World) : Prop :=
 ∃ A n c A' n' c', e = .returned (.agg #[.slice A n c, .slice A' n' c']) ∧ Has w' w.heap.size d.cells [.slice A n c, .slice A' n' c'] ∧ Below w.heap.size w w'
theorem toDisk_made (v0 v1 : Value) (d : DiskM) (w : World) (h : Rd w w.heap.size d.cells [v0, v1]) (hs : d.sz ≤ 1048576) : Calls Tryz.prog 75 #[.agg #[v0, v1]] w (MadeD w d) := by
 refine (toDisk_any v0 v1 d w h hs).mono ?_
 rintro e w1 ⟨u0, u1, rfl, o, b⟩
 obtain ⟨A, n, c, A', n', c', rfl, rfl, _⟩ := o.rd.disk
 exact ⟨A, n, c, A', n', c', rfl, o, b⟩
end Go.Proofs.YthjjdelpdiipdaaGreatDoor
namespace Go.Proofs.YthjjdelpdiipdaaGreatDoor
set_option maxRecDepth 100000
open Go.RowKit
end Go.Proofs.YthjjdelpdiipdaaGreatDoor
namespace Go.Proofs.YthjjdelpdiipdaaGreatDoor
set_option maxRecDepth 100000
open Go.RowKit
def hasS (d : DiskM) (i : Int) : Bool := decide (0 ≤ i) && decide (i ≤ (d.kept.length : Int) - 1)
def wrOk (d : DiskM) (p : Int × List Int) : Bool := hasS d p.1 && rowOk p.2
def diskOk (d : DiskM) : Bool := decide (1 ≤ d.kept.length) && (decide (d.kept.length ≤ 40) && (decide (d.wait.length ≤ 60) && (d.kept.all rowOk && d.wait.all (wrOk d))))
section
variable {α : Type} {p : α → Bool} {l : List α} {j : Nat}
theorem all_step (hj : j < l.length) (h : (l.take j).all p = true) (hp : p l[j] = true) : (l.take (j + 1)).all p = true := by
 rw [List.take_succ_eq_append_getElem hj, List.all_append, h]
 simp [hp]
theorem all_bad (hj : j < l.length) (hp : p l[j] = false) : l.all p = false := by
 rw [List.all_eq_false]
 exact ⟨l[j], List.getElem_mem hj, by simp [hp]⟩
end
theorem diskOk_iff {d : DiskM} : diskOk d = true ↔ (1 ≤ d.kept.length ∧ d.kept.length ≤ 40) ∧ d.wait.length ≤ 60 ∧ d.kept.all rowOk = true ∧ d.wait.all (wrOk d) = true := by
 unfold diskOk
 simp only [Bool.and_eq_true, decide_eq_true_eq]
 constructor
 · rintro ⟨a, b, c, e, f⟩; exact ⟨⟨a, b⟩, c, e, f⟩
 · rintro ⟨⟨a, b⟩, c, e, f⟩; exact ⟨a, b, c, e, f⟩
theorem diskOk_no {d : DiskM} (h : ¬ ((1 ≤ d.kept.length ∧ d.kept.length ≤ 40) ∧ d.wait.length ≤ 60 ∧ d.kept.all rowOk = true ∧ d.wait.all (wrOk d) = true)) : diskOk d = false := by
 cases hd : diskOk d
 · rfl
 · exact absurd (diskOk_iff.1 hd) h
end Go.Proofs.YthjjdelpdiipdaaGreatDoor
namespace Go.Proofs.YthjjdelpdiipdaaGreatDoor
set_option maxRecDepth 100000
open Go.RowKit
end Go.Proofs.YthjjdelpdiipdaaGreatDoor
namespace Go.Proofs.YthjjdelpdiipdaaGreatDoor
set_option maxRecDepth 100000
open Go.RowKit
end Go.Proofs.YthjjdelpdiipdaaGreatDoor
namespace Go.Proofs.YthjjdelpdiipdaaGreatDoor
set_option maxRecDepth 100000
open Go.RowKit
end Go.Proofs.YthjjdelpdiipdaaGreatDoor

/-
  The laws' helpers that compare disks: equal ones are told equal.
-/
import Derived.Test.YtejcpoidoekleaaDsk
import Derived.Test.YtejcpoidoekleaaEq
import Derived.RegionTactic
import Derived.BigQuiet
namespace Go.Proofs.Ytejcpoidoekleaa
set_option maxRecDepth 100000
open Go.RowKit

set_option maxHeartbeats 800000 in
theorem eqWrite_yes (x : Int) (A A' : Option Addr) (n c c' B B' : Nat) (xs : List Int) (w : World) (h : IRow w B A n xs) (h' : IRow w B' A' n xs) (hB : B ≤ w.heap.size) (hB' : B' ≤ w.heap.size) (hn : n ≤ 1048577) :
    Calls Try.prog 120 #[.agg #[.int .i64 x, .slice A n c], .agg #[.int .i64 x, .slice A' n c']] w fun e w' => e = .returned (.bool true) ∧ Below w.heap.size w w' := by
  have b0 : Below w.heap.size w ((w.alloc (.cells #[.int .i64 x, .slice A n c] 49)).alloc (.cells #[.int .i64 x, .slice A' n c'] 49)) :=
    ((Below.refl _ w).alloc (Nat.le_refl _) _).alloc (by simp) _
  have h0 := h.below (b0.mono hB)
  have h1 := h'.below (b0.mono hB')
  have B0 := Lib.hid b0
  clear h h' b0
  go_enter Try.func120, Try.ntmps120
  go_wp2_with fail
  refine (eq_yes A A' n c c' _ _ xs _ h0 h1 hn).mono ?_
  rintro e w1 ⟨rfl, d1⟩
  have B1 := Lib.hid (B0.out.trans (d1.below _))
  clear h0 h1 d1
  go_wp2
  go_ret
  exact ⟨rfl, B1.out⟩

set_option maxHeartbeats 1600000 in
theorem eqWriteS_yes (A A' : Option Addr) (n n' c c' B B' : Nat) (l : List (Int × List Int)) (w : World) (h : Rd w B [waitD l] [.slice A n c]) (h' : Rd w B' [waitD l] [.slice A' n' c']) (hB : B ≤ w.heap.size) (hB' : B' ≤ w.heap.size) (hs : waitSz l ≤ 1048577) :
    Calls Try.prog 106 #[.slice A n c, .slice A' n' c'] w fun e w' => e = .returned (.bool true) ∧ Below w.heap.size w w' := by
  obtain ⟨_, _, _, e, hl, _, _, hel⟩ := h.wait
  injection e with e1 e2 e3
  subst e1 e2 e3
  obtain ⟨_, _, _, e, hl', _, _, hel'⟩ := h'.wait
  injection e with e1 e2 e3
  subst e1 e2 e3
  obtain rfl : n = n' := by rw [← hl, hl']
  have hn : n ≤ 1048577 := by unfold waitSz at hs; omega
  have HS := Lib.hid hs
  have HL := Lib.hid hl
  clear hl hl' hs h h'
  go_enter Try.func106, Try.ntmps106
  go_wp2
  go_loopw [5] (fun i wr => ∃ j : Nat, j ≤ n ∧ i = .int .i64 (j : Int) ∧ Below w.heap.size w wr) (fun i _ => n - (intOf i).toNat)
  case atStart => exact ⟨0, Nat.zero_le _, rfl, Below.refl _ _⟩
  case round =>
    obtain ⟨j, hj, rfl, hbel⟩ := hrel
    by_cases hlt : j < n
    · obtain ⟨b, off, rfl, hb, hc⟩ := hel (by omega)
      obtain ⟨b', off', rfl, hb', hc'⟩ := hel' (by omega)
      have hjl : j < l.length := by have := HL.out; omega
      obtain ⟨A1, m1, d1, hc0, hc1, hrow, _⟩ := hc j hjl
      obtain ⟨A2, m2, d2, hc2, hc3, hrow', _⟩ := hc' j hjl
      obtain rfl : m1 = m2 := by rw [← hrow.1, ← hrow'.1]
      have cs0 := (hbel.cell (p := ⟨b, off + j * 2, none⟩) (show b < _ by omega)).trans hc0
      have cs1 := (hbel.cell (p := ⟨b, off + j * 2 + 1, none⟩) (show b < _ by omega)).trans hc1
      have cs2 := (hbel.cell (p := ⟨b', off' + j * 2, none⟩) (show b' < _ by omega)).trans hc2
      have cs3 := (hbel.cell (p := ⟨b', off' + j * 2 + 1, none⟩) (show b' < _ by omega)).trans hc3
      have hr1 := hrow.below (hbel.mono hB)
      have hr2 := hrow'.below (hbel.mono hB')
      have hm1 : m1 ≤ 1048577 := by
        have h1 := pre_at (g := wrSz) hjl
        have h2 := HS.out
        have h3 := hrow.1
        have h4 : wrSz l[j] = l[j].2.length := rfl
        unfold waitSz at h2
        omega
      generalize l[j].1 = x at *
      generalize l[j].2 = xs at *
      have i0 : (0 : Int) ≤ (j : Int) := by omega
      have i1 : (j : Int) < (n : Int) := by omega
      have z := hbel.size
      have HB := Lib.hid hbel
      have R1 := Lib.hid hr1
      have R2 := Lib.hid hr2
      clear hc hc' hc0 hc1 hc2 hc3 hrow hrow' hel hel' hbel hr1 hr2
      go_wp2_with fail
      go_region_with (first
        | (go_at_call 120
           refine (eqWrite_yes x A1 A2 m1 d1 d2 B B' xs _ ?_ ?_ ?_ ?_ hm1).mono ?_
           exact R1.out
           exact R2.out
           show B ≤ wr.heap.size; omega
           show B' ≤ wr.heap.size; omega
           rintro e w1 ⟨rfl, b1⟩
           have BB := Lib.hid (HB.out.drew.trans (b1.mono (by show w.heap.size ≤ wr.heap.size; omega)))))
      all_goals
        go_wp2
        go_roundw
        case rel => exact ⟨j + 1, by omega, by go_num, BB.out⟩
        case measure => simp [intOf]; omega
    · go_wp2
      go_ret
      exact ⟨rfl, hbel⟩

set_option maxHeartbeats 1600000 in
theorem eqRows_yes (A A' : Option Addr) (n n' c c' B B' : Nat) (l : List (List Int)) (w : World) (h : Rd w B [keptD l] [.slice A n c]) (h' : Rd w B' [keptD l] [.slice A' n' c']) (hs : rowsSz l ≤ 1048577) :
    Calls Try.prog 42 #[.slice A n c, .slice A' n' c'] w fun e w' => e = .returned (.bool true) ∧ Drew w w' := by
  obtain ⟨_, _, _, e, hl, _, _, hel⟩ := h.kept
  injection e with e1 e2 e3
  subst e1 e2 e3
  obtain ⟨_, _, _, e, hl', _, _, hel'⟩ := h'.kept
  injection e with e1 e2 e3
  subst e1 e2 e3
  obtain rfl : n = n' := by rw [← hl, hl']
  have hn : n ≤ 1048577 := by unfold rowsSz at hs; omega
  have HS := Lib.hid hs
  have HL := Lib.hid hl
  clear hl hl' hs h h'
  go_enter Try.func42, Try.ntmps42
  go_wp2
  go_loopw [5] (fun i wr => ∃ j : Nat, j ≤ n ∧ i = .int .i64 (j : Int) ∧ Drew w wr) (fun i _ => n - (intOf i).toNat)
  case atStart => exact ⟨0, Nat.zero_le _, rfl, Drew.refl _⟩
  case round =>
    obtain ⟨j, hj, rfl, hd⟩ := hrel
    by_cases hlt : j < n
    · obtain ⟨b, off, rfl, hb, hc⟩ := hel (by omega)
      obtain ⟨b', off', rfl, hb', hc'⟩ := hel' (by omega)
      have hjl : j < l.length := by have := HL.out; omega
      obtain ⟨A1, m1, d1, hc0, hrow, _⟩ := hc j hjl
      obtain ⟨A2, m2, d2, hc1, hrow', _⟩ := hc' j hjl
      obtain rfl : m1 = m2 := by rw [← hrow.1, ← hrow'.1]
      have cs0 := ((hd.below B).cell (p := ⟨b, off + j, none⟩) hb).trans hc0
      have cs1 := ((hd.below B').cell (p := ⟨b', off' + j, none⟩) hb').trans hc1
      have hm1 : m1 ≤ 1048577 := by
        have h1 := pre_at (g := List.length) hjl
        have h2 := HS.out
        have h3 := hrow.1
        unfold rowsSz at h2
        omega
      have hr1 := hrow.below (hd.below B)
      have hr2 := hrow'.below (hd.below B')
      have hq := Lib.hid (fun q => eq_yes A1 A2 m1 d1 d2 _ _ _ (wr.drewN q) (hr1.drewN q) (hr2.drewN q) hm1)
      have i0 : (0 : Int) ≤ (j : Int) := by omega
      have i1 : (j : Int) < (n : Int) := by omega
      clear hc hc' hc0 hc1 hrow hrow' hr1 hr2 hel hel'
      go_wp2
      go_quiet ((go_at_call 38; exact Calls.quiet_of (hq.out _)))
      go_wp2
      go_roundw
      case rel => exact ⟨j + 1, by omega, by go_num, hd.more _⟩
      case measure => simp [intOf]; omega
    · go_wp2
      go_ret
      exact ⟨rfl, hd⟩

/-- Where a disk is read as a whole. -/
theorem Rd.disk {w : World} {B : Nat} {d : DiskM} {v0 v1 : Value} (h : Rd w B d.cells [v0, v1]) : ∃ A n c A' n' c', v0 = .slice A n c ∧ v1 = .slice A' n' c' ∧ Rd w B [keptD d.kept] [.slice A n c] ∧ Rd w B [waitD d.wait] [.slice A' n' c'] := by
  obtain ⟨u0, u1, e, h0, h1⟩ := Rd.two h
  injection e with e0 e1
  injection e1 with e1 _
  subst e0 e1
  obtain ⟨A, n, c, rfl, _⟩ := h0.kept
  obtain ⟨A', n', c', rfl, _⟩ := h1.wait
  exact ⟨A, n, c, A', n', c', rfl, rfl, h0, h1⟩

set_option maxHeartbeats 800000 in
theorem eqDisk_yes (v0 v1 u0 u1 : Value) (B B' : Nat) (d : DiskM) (w : World) (h : Rd w B d.cells [v0, v1]) (h' : Rd w B' d.cells [u0, u1]) (hB : B ≤ w.heap.size) (hB' : B' ≤ w.heap.size) (hs : d.sz ≤ 1048577) :
    Calls Try.prog 74 #[.agg #[v0, v1], .agg #[u0, u1]] w fun e w' => e = .returned (.bool true) ∧ Below w.heap.size w w' := by
  obtain ⟨A, n, c, A', n', c', rfl, rfl, h1, h2⟩ := h.disk
  obtain ⟨E, m, g, E', m', g', rfl, rfl, k1, k2⟩ := h'.disk
  obtain ⟨w0, hw0⟩ : ∃ w0, w0 = (w.alloc (.cells #[.slice A n c, .slice A' n' c'] 30)).alloc (.cells #[.slice E m g, .slice E' m' g'] 30) := ⟨_, rfl⟩
  have b0 : Below w.heap.size w w0 := by
    rw [hw0]
    exact ((Below.refl _ w).alloc (Nat.le_refl _) _).alloc (by simp) _
  have p0 : Blk w0 w.heap.size #[.slice A n c, .slice A' n' c'] 30 := by
    rw [hw0]
    exact (Blk.new w _ _).alloc _
  have p1 : Blk w0 (w.heap.size + 1) #[.slice E m g, .slice E' m' g'] 30 := by
    rw [hw0]
    have := Blk.new (w.alloc (.cells #[.slice A n c, .slice A' n' c'] 30)) #[.slice E m g, .slice E' m' g'] 30
    simpa using this
  have hk : rowsSz d.kept ≤ 1048577 := by unfold DiskM.sz at hs; omega
  have hw : waitSz d.wait ≤ 1048577 := by unfold DiskM.sz at hs; omega
  have HW := Lib.hid hw0
  clear hw0 hs h h'
  go_enter Try.func74, Try.ntmps74
  go_wp2_with fail
  rw [← HW.out]
  refine (eqRows_yes A E n m c g B B' d.kept _ (h1.keep (b0.mono hB)) (k1.keep (b0.mono hB')) hk).mono ?_
  rintro e w1 ⟨rfl, d1⟩
  have b1 := b0.trans (d1.below _)
  have q0 := p0.keep (d1.below w0.heap.size) p0.lt
  have q1 := p1.keep (d1.below w0.heap.size) p1.lt
  have c0 : w1.cell? ⟨w.heap.size, 1, none⟩ = some (.slice A' n' c') := q0.cell 1
  have c1 : w1.cell? ⟨w.heap.size + 1, 1, none⟩ = some (.slice E' m' g') := q1.cell 1
  have z1 := b1.size
  clear q0 q1 p0 p1
  go_wp2_with fail
  refine (eqWriteS_yes A' E' n' m' c' g' B B' d.wait _ (h2.keep (b1.mono hB)) (k2.keep (b1.mono hB')) (by omega) (by omega) hw).mono ?_
  rintro e w2 ⟨rfl, b2⟩
  have B2 := Lib.hid (b1.trans (b2.mono b1.size))
  clear b2 b1 b0
  go_wp2
  go_ret
  exact ⟨rfl, B2.out⟩

end Go.Proofs.Ytejcpoidoekleaa

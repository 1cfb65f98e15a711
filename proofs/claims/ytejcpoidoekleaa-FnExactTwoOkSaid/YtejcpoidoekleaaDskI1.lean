/-
  The program of chapter 3: sectors, validity.
-/
import Derived.Test.YtejcpoidoekleaaDskS1
namespace Go.Proofs.Ytejcpoidoekleaa
set_option maxRecDepth 100000
open Go.RowKit

set_option maxHeartbeats 800000 in
theorem iHas_any (A A' : Option Addr) (n c n' c' : Nat) (d : DiskM) (i : Int) (w : World) (hl : d.kept.length = n) (_hn : n ≤ 1048577) :
    Calls Try.prog 88 #[.agg #[.slice A n c, .slice A' n' c'], .int .i64 i] w fun e w' => e = .returned (.bool (hasS d i)) ∧ Below w.heap.size w w' := by
  have B0 := Lib.hid ((Below.refl w.heap.size w).alloc (Nat.le_refl _) (.cells #[.slice A n c, .slice A' n' c'] 30))
  by_cases hi : 0 ≤ i
  · have HH := Lib.hid (show hasS d i = decide (i < (n : Int)) by
      unfold hasS
      rw [hl, decide_eq_true hi, Bool.true_and]
      exact decide_eq_decide.2 (by omega))
    clear hl
    go_enter Try.func88, Try.ntmps88
    go_wp2
    go_ret
    exact ⟨ret_bool HH.out.symm, B0.out⟩
  · have HH := Lib.hid (show hasS d i = false by
      unfold hasS
      rw [decide_eq_false hi, Bool.false_and])
    clear hl
    go_enter Try.func88, Try.ntmps88
    go_wp2
    go_ret
    exact ⟨ret_bool HH.out.symm, B0.out⟩

set_option maxHeartbeats 3200000 in
theorem iDiskOk_any (v0 v1 : Value) (d : DiskM) (B : Nat) (w : World) (h : Rd w B d.cells [v0, v1]) (hB : B ≤ w.heap.size) (hs : d.sz ≤ 1048577) :
    Calls Try.prog 56 #[.agg #[v0, v1]] w fun e w' => e = .returned (.bool (diskOk d)) ∧ Below w.heap.size w w' := by
  obtain ⟨A, n, c, A', n', c', rfl, rfl, h1, h2⟩ := h.disk
  obtain ⟨_, _, _, e, hl1, _, _, hel1⟩ := h1.kept
  injection e with e1 e2 e3
  subst e1 e2 e3
  obtain ⟨_, _, _, e, hl2, _, _, hel2⟩ := h2.wait
  injection e with e1 e2 e3
  subst e1 e2 e3
  have hn : n ≤ 1048577 := by unfold DiskM.sz rowsSz at hs; omega
  have hn' : n' ≤ 1048577 := by unfold DiskM.sz waitSz at hs; omega
  have HS := Lib.hid hs
  have HL1 := Lib.hid hl1
  have HL2 := Lib.hid hl2
  clear h h1 h2 hs hl1 hl2
  by_cases hbad : n < 1 ∨ 40 < n ∨ 60 < n'
  · have HD := Lib.hid (show diskOk d = false from diskOk_no fun h' => by
      have a1 := HL1.out
      have a2 := HL2.out
      omega)
    have B0 := Lib.hid ((Below.refl w.heap.size w).alloc (Nat.le_refl _) (.cells #[.slice A n c, .slice A' n' c'] 30))
    clear hel1 hel2
    rcases Nat.lt_or_ge n 1 with g1 | g1
    · go_enter Try.func56, Try.ntmps56
      go_wp2
      go_ret
      exact ⟨ret_bool HD.out.symm, B0.out⟩
    · rcases Nat.lt_or_ge 40 n with g2 | g2
      · go_enter Try.func56, Try.ntmps56
        go_wp2
        go_ret
        exact ⟨ret_bool HD.out.symm, B0.out⟩
      · have g3 : 60 < n' := by omega
        go_enter Try.func56, Try.ntmps56
        go_wp2
        go_ret
        exact ⟨ret_bool HD.out.symm, B0.out⟩
  have g1 : 1 ≤ n := by omega
  have g2 : n ≤ 40 := by omega
  have g3 : n' ≤ 60 := by omega
  clear hbad
  obtain ⟨w0, hw0⟩ : ∃ w0, w0 = w.alloc (.cells #[.slice A n c, .slice A' n' c'] 30) := ⟨_, rfl⟩
  have b0 : Below w.heap.size w w0 := by rw [hw0]; exact (Below.refl _ w).alloc (Nat.le_refl _) _
  have p0 : Blk w0 w.heap.size #[.slice A n c, .slice A' n' c'] 30 := by rw [hw0]; exact Blk.new w _ _
  have HW := Lib.hid hw0
  have k0 : w0.cell? ⟨w.heap.size, 0, none⟩ = some (.slice A n c) := p0.cell 0
  have k1 : w0.cell? ⟨w.heap.size, 1, none⟩ = some (.slice A' n' c') := p0.cell 1
  have P0 := Lib.hid p0
  have B0 := Lib.hid b0
  clear hw0 p0 b0
  go_enter Try.func56, Try.ntmps56
  go_wp2
  rw [← HW.out]
  go_loop [26] (fun i => ∃ j : Nat, j ≤ n ∧ i = .int .i64 (j : Int) ∧ (d.kept.take j).all rowOk = true) (fun i => n - (intOf i).toNat)
  case atStart => exact ⟨0, Nat.zero_le _, rfl, by simp⟩
  case round =>
    obtain ⟨j, hj, rfl, hall⟩ := hrel
    by_cases hlt : j < n
    · obtain ⟨b, off, rfl, hb, hc⟩ := hel1 (by omega)
      have hjl : j < d.kept.length := by have := HL1.out; omega
      obtain ⟨A1, m1, d1, hcell, hrow, hm1, hm2⟩ := hc j hjl
      have hm : m1 ≤ 1048577 := by
        have h1 := pre_at (g := List.length) hjl
        have h2 := HS.out
        have h3 := hrow.1
        unfold DiskM.sz rowsSz at h2
        omega
      have hr := hrow.below (B0.out.mono hB)
      have ce := (B0.out.cell (p := ⟨b, off + j, none⟩) (show b < _ by omega)).trans hcell
      cases hok : rowOk d.kept[j]
      · have HD := Lib.hid (ok_kept_bad hjl hok)
        have HO := Lib.hid hok
        clear hc hrow hcell hel1 hel2 hok
        go_wp2_with fail
        refine (iRowOk_any A1 m1 d1 _ _ _ hr hm).mono ?_
        rintro e w1 ⟨rfl, rfl⟩
        rw [HO.out]
        go_wp2
        go_ret
        exact ⟨ret_bool HD.out.symm, B0.out⟩
      · have HA := Lib.hid (all_step hjl hall hok)
        have HO := Lib.hid hok
        clear hc hrow hcell hel1 hel2 hok hall
        go_wp2_with fail
        refine (iRowOk_any A1 m1 d1 _ _ _ hr hm).mono ?_
        rintro e w1 ⟨rfl, rfl⟩
        rw [HO.out]
        go_wp2
        go_round
        case rel => exact ⟨j + 1, by omega, by go_num, HA.out⟩
        case measure => simp [intOf]; omega
    · have hjn : j = d.kept.length := by have := HL1.out; omega
      have HK := Lib.hid (show d.kept.all rowOk = true by rw [hjn, List.take_of_length_le (Nat.le_refl _)] at hall; exact hall)
      clear hjn hall hel1 k0 k1
      have hi : ¬ ((j : Int) < (n : Int)) := by omega
      have k0 : w0.cell? ⟨w.heap.size, 0, none⟩ = some (.slice A n c) := P0.out.cell 0
      have k1 : w0.cell? ⟨w.heap.size, 1, none⟩ = some (.slice A' n' c') := P0.out.cell 1
      go_wp2
      go_loopw [37] (fun i wr => ∃ j : Nat, j ≤ n' ∧ i = .int .i64 (j : Int) ∧ (d.wait.take j).all (wrOk d) = true ∧ Below w0.heap.size w0 wr) (fun i _ => n' - (intOf i).toNat)
      case atStart => exact ⟨0, Nat.zero_le _, rfl, by simp, Below.refl _ _⟩
      case round =>
        obtain ⟨j2, hj2, rfl, hall2, hbel⟩ := hrel
        have pr := P0.out.keep hbel P0.out.lt
        have BR := Lib.hid (B0.out.trans (hbel.mono B0.out.size))
        have RR := Lib.hid hbel
        by_cases hlt2 : j2 < n'
        · obtain ⟨b, off, rfl, hb, hc⟩ := hel2 (by omega)
          have hjl : j2 < d.wait.length := by have := HL2.out; omega
          obtain ⟨A1, m1, d1, hcell, hcell2, hrow, hm1, hm2⟩ := hc j2 hjl
          have hm : m1 ≤ 1048577 := by
            have h1 := pre_at (g := wrSz) hjl
            have h2 := HS.out
            have h3 : wrSz d.wait[j2] = m1 := hrow.1
            unfold DiskM.sz waitSz at h2
            omega
          have ce := (BR.out.cell (p := ⟨b, off + j2 * 2, none⟩) (show b < _ by omega)).trans hcell
          have ce2 := (BR.out.cell (p := ⟨b, off + j2 * 2 + 1, none⟩) (show b < _ by omega)).trans hcell2
          obtain ⟨x, hx⟩ : ∃ x, x = d.wait[j2].1 := ⟨_, rfl⟩
          obtain ⟨xr, hxr⟩ : ∃ xr, xr = d.wait[j2].2 := ⟨_, rfl⟩
          have hwr : wrOk d d.wait[j2] = (hasS d x && rowOk xr) := by rw [hx, hxr]; rfl
          rw [← hx] at ce
          have hrw : IRow w B A1 m1 xr := by rw [hxr]; exact hrow
          have i0 : (0 : Int) ≤ (j2 : Int) := by omega
          have i1 : (j2 : Int) < (n' : Int) := by omega
          have b2 : Below wr.heap.size wr (wr.alloc (.cells #[.int .i64 x, .slice A1 m1 d1] 49)) := (Below.refl _ _).alloc (Nat.le_refl _) _
          have p2 : Blk (wr.alloc (.cells #[.int .i64 x, .slice A1 m1 d1] 49)) wr.heap.size #[.int .i64 x, .slice A1 m1 d1] 49 := Blk.new wr _ _
          have pr2 := pr.keep b2 pr.lt
          have r0 : (wr.alloc (.cells #[.int .i64 x, .slice A1 m1 d1] 49)).cell? ⟨w.heap.size, 0, none⟩ = some (.slice A n c) := pr2.cell 0
          have r1 : (wr.alloc (.cells #[.int .i64 x, .slice A1 m1 d1] 49)).cell? ⟨w.heap.size, 1, none⟩ = some (.slice (some ⟨b, off, none⟩) n' c') := pr2.cell 1
          have q0 : (wr.alloc (.cells #[.int .i64 x, .slice A1 m1 d1] 49)).cell? ⟨wr.heap.size, 0, none⟩ = some (.int .i64 x) := p2.cell 0
          have q1 : (wr.alloc (.cells #[.int .i64 x, .slice A1 m1 d1] 49)).cell? ⟨wr.heap.size, 1, none⟩ = some (.slice A1 m1 d1) := p2.cell 1
          have R2 := Lib.hid (RR.out.trans (b2.mono RR.out.size))
          have HP2 := Lib.hid p2
          have HALL := Lib.hid hall2
          have HWR := Lib.hid hwr
          clear hx hxr hc hrow hcell hcell2 hel2 pr hbel hall2 hwr pr2 p2 b2 k0 k1 RR BR
          cases hhas : hasS d x
          · have HH := Lib.hid hhas
            have HD := Lib.hid (ok_wait_bad hjl (by rw [HWR.out, hhas]; rfl))
            clear hhas
            go_wp2_with fail
            generalize wr.alloc (.cells #[.int .i64 x, .slice A1 m1 d1] 49) = w2 at *
            refine (iHas_any A (some ⟨b, off, none⟩) n c n' c' d x _ HL1.out hn).mono ?_
            rintro e w3 ⟨rfl, b3⟩
            rw [HH.out]
            have B3 := Lib.hid (B0.out.trans ((R2.out.trans (b3.mono R2.out.size)).mono B0.out.size))
            clear b3 r0 r1 q0 q1
            go_wp2
            go_ret
            exact ⟨ret_bool HD.out.symm, B3.out⟩
          · cases hrok : rowOk xr
            · have HH := Lib.hid hhas
              have HO := Lib.hid hrok
              have HD := Lib.hid (ok_wait_bad hjl (by rw [HWR.out, hhas, hrok]; rfl))
              clear hhas hrok
              go_wp2_with fail
              generalize wr.alloc (.cells #[.int .i64 x, .slice A1 m1 d1] 49) = w2 at *
              refine (iHas_any A (some ⟨b, off, none⟩) n c n' c' d x _ HL1.out hn).mono ?_
              rintro e w3 ⟨rfl, b3⟩
              rw [HH.out]
              have b03 := R2.out.trans (b3.mono R2.out.size)
              have B3 := Lib.hid (B0.out.trans (b03.mono B0.out.size))
              have p3 := HP2.out.keep b3 HP2.out.lt
              have s1 : w3.cell? ⟨wr.heap.size, 1, none⟩ = some (.slice A1 m1 d1) := p3.cell 1
              have hr := hrw.below (B3.out.mono hB)
              clear b3 b03 r0 r1 q0 q1 p3
              go_wp2_with fail
              refine (iRowOk_any A1 m1 d1 B xr _ hr hm).mono ?_
              rintro e w4 ⟨rfl, rfl⟩
              rw [HO.out]
              clear hr
              go_wp2
              go_ret
              exact ⟨ret_bool HD.out.symm, B3.out⟩
            · have HH := Lib.hid hhas
              have HO := Lib.hid hrok
              have HA := Lib.hid (all_step hjl HALL.out (by rw [HWR.out, hhas, hrok]; rfl))
              clear hhas hrok
              go_wp2_with fail
              generalize wr.alloc (.cells #[.int .i64 x, .slice A1 m1 d1] 49) = w2 at *
              refine (iHas_any A (some ⟨b, off, none⟩) n c n' c' d x _ HL1.out hn).mono ?_
              rintro e w3 ⟨rfl, b3⟩
              rw [HH.out]
              have b03 := R2.out.trans (b3.mono R2.out.size)
              have B3 := Lib.hid (B0.out.trans (b03.mono B0.out.size))
              have R3 := Lib.hid b03
              have p3 := HP2.out.keep b3 HP2.out.lt
              have s1 : w3.cell? ⟨wr.heap.size, 1, none⟩ = some (.slice A1 m1 d1) := p3.cell 1
              have hr := hrw.below (B3.out.mono hB)
              clear b3 b03 r0 r1 q0 q1 p3
              go_wp2_with fail
              refine (iRowOk_any A1 m1 d1 B xr _ hr hm).mono ?_
              rintro e w4 ⟨rfl, rfl⟩
              rw [HO.out]
              clear hr
              go_wp2
              go_roundw
              case rel => exact ⟨j2 + 1, by omega, by go_num, HA.out, R3.out⟩
              case measure => simp [intOf]; omega
        · have hi2 : ¬ ((j2 : Int) < (n' : Int)) := by omega
          have HD := Lib.hid (show diskOk d = true from diskOk_iff.2 ⟨⟨by rw [HL1.out]; exact g1, by rw [HL1.out]; exact g2⟩, by rw [HL2.out]; exact g3, HK.out, by
            rw [List.take_of_length_le (by have := HL2.out; omega)] at hall2
            exact hall2⟩)
          go_wp2
          go_ret
          exact ⟨ret_bool HD.out.symm, BR.out⟩

end Go.Proofs.Ytejcpoidoekleaa

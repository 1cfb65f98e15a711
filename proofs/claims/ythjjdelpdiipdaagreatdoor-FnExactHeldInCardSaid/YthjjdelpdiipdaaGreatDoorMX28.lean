/- Parts of my texts: DskS1 TwoS1. -/
import Derived.Test.YthjjdelpdiipdaaGreatDoorMX3
import Derived.Deep.RegionHeld3
import Derived.Deep.RegionLaw
namespace Go.Proofs.YthjjdelpdiipdaaGreatDoor
set_option maxRecDepth 100000
set_option linter.unusedVariables false
open Go.RowKit
theorem sHas_any (A A' : Option Addr) (n c n' c' : Nat) (d : DiskM) (i : Int) (w : World) (hl : d.kept.length = n) (hn : n ≤ 1048577) :
    Calls Tryz.prog 147 #[.agg #[.slice A n c, .slice A' n' c'], .int .i64 i] w fun e w' => e = .returned (.bool (hasS d i)) ∧ Below w.heap.size w w' := by
 have B0 := jd ((Below.refl w.heap.size w).alloc (Nat.le_refl _) (.cells #[.slice A n c, .slice A' n' c'] 41))
 have HH := jd (show hasS d i = (decide (0 ≤ i) && decide (i ≤ (n : Int) - 1)) by unfold hasS; rw [hl])
 clear hl
 go_enter Tryz.func147, Tryz.ntmps147
 go_wp2_with fail
 refine (in_any _ _ _ _).mono ?_
 rintro e w1 ⟨rfl, rfl⟩
 rw [← HH.out]
 go_wp2
 go_ret
 exact ⟨rfl, B0.out⟩
theorem ok_kept_bad {d : DiskM} {j : Nat} (hj : j < d.kept.length) (h : rowOk d.kept[j] = false) : diskOk d = false :=
 diskOk_no fun h' => by rw [all_bad hj h] at h'; exact absurd h'.2.2.1 (by simp)
theorem ok_wait_bad {d : DiskM} {j : Nat} (hj : j < d.wait.length) (h : wrOk d d.wait[j] = false) : diskOk d = false :=
 diskOk_no fun h' => by rw [all_bad hj h] at h'; exact absurd h'.2.2.2 (by simp)
set_option maxHeartbeats 3200000 in
theorem sDiskOk_any (v0 v1 : Value) (d : DiskM) (B : Nat) (w : World) (h : Rd w B d.cells [v0, v1]) (hB : B ≤ w.heap.size) (hs : d.sz ≤ 1048577) :
    Calls Tryz.prog 105 #[.agg #[v0, v1]] w fun e w' => e = .returned (.bool (diskOk d)) ∧ Below w.heap.size w w' := by
 obtain ⟨A, n, c, A', n', c', rfl, rfl, h1, h2⟩ := h.disk
 obtain ⟨_, _, _, e, hl1, _, _, hel1⟩ := h1.kept
 injection e with e1 e2 e3
 subst e1 e2 e3
 obtain ⟨_, _, _, e, hl2, _, _, hel2⟩ := h2.wait
 injection e with e1 e2 e3
 subst e1 e2 e3
 have hn : n ≤ 1048577 := by unfold DiskM.sz rowsSz at hs; omega
 have hn' : n' ≤ 1048577 := by unfold DiskM.sz waitSz at hs; omega
 have HS := jd hs
 have HL1 := jd hl1
 have HL2 := jd hl2
 clear h h1 h2 hs hl1 hl2
 by_cases hbad : n < 1 ∨ 40 < n ∨ 60 < n'
 · have HD := jd (show diskOk d = false from diskOk_no fun h' => by
     have a1 := HL1.out
     have a2 := HL2.out
     omega)
   have B0 := jd ((Below.refl w.heap.size w).alloc (Nat.le_refl _) (.cells #[.slice A n c, .slice A' n' c'] 41))
   clear hel1 hel2
   rcases Nat.lt_or_ge n 1 with g1 | g1
   · go_enter Tryz.func105, Tryz.ntmps105
     go_wp2
     go_ret
     exact ⟨ret_bool HD.out.symm, B0.out⟩
   · rcases Nat.lt_or_ge 40 n with g2 | g2
     · go_enter Tryz.func105, Tryz.ntmps105
       go_wp2
       go_ret
       exact ⟨ret_bool HD.out.symm, B0.out⟩
     · have g3 : 60 < n' := by omega
       go_enter Tryz.func105, Tryz.ntmps105
       go_wp2
       go_ret
       exact ⟨ret_bool HD.out.symm, B0.out⟩
 have g1 : 1 ≤ n := by omega
 have g2 : n ≤ 40 := by omega
 have g3 : n' ≤ 60 := by omega
 clear hbad
 obtain ⟨w0, hw0⟩ : ∃ w0, w0 = w.alloc (.cells #[.slice A n c, .slice A' n' c'] 41) := ⟨_, rfl⟩
 have b0 : Below w.heap.size w w0 := by rw [hw0]; exact (Below.refl _ w).alloc (Nat.le_refl _) _
 have p0 : Blk w0 w.heap.size #[.slice A n c, .slice A' n' c'] 41 := by rw [hw0]; exact Blk.new w _ _
 have HW := jd hw0
 have k0 : w0.cell? ⟨w.heap.size, 0, none⟩ = some (.slice A n c) := p0.cell 0
 have k1 : w0.cell? ⟨w.heap.size, 1, none⟩ = some (.slice A' n' c') := p0.cell 1
 have P0 := jd p0
 have B0 := jd b0
 clear hw0 p0 b0
 go_enter Tryz.func105, Tryz.ntmps105
 go_wp2
 rw [← HW.out]
 go_loop [3] (fun i => ∃ j : Nat, j ≤ n ∧ i = .int .i64 (j : Int) ∧ (d.kept.take j).all rowOk = true) (fun i => n - (intOf i).toNat)
 case atStart => exact ⟨0, Nat.zero_le _, rfl, by simp⟩
 case round =>
  obtain ⟨j, hj, rfl, hall⟩ := hrel
  by_cases hlt : j < n
  · obtain ⟨b, off, rfl, hb, hc⟩ := hel1 (by omega)
    have hjl : j < d.kept.length := by have := HL1.out; omega
    obtain ⟨A1, m1, d1, hcell, hrow, hm1, hm2⟩ := hc j hjl
    have hm : m1 ≤ 1048577 := by
     have h1 := pre_at (g := List.length) hjl
     have h2 := HS.out
     have h3 := hrow.1
     unfold DiskM.sz rowsSz at h2
     omega
    have hr := hrow.below (B0.out.mono hB)
    have ce := (B0.out.cell (p := ⟨b, off + j, none⟩) (show b < _ by omega)).trans hcell
    cases hok : rowOk d.kept[j]
    · have HD := jd (ok_kept_bad hjl hok)
      have HO := jd hok
      clear hc hrow hcell hel1 hel2 hok
      go_wp2_with fail
      refine (sRowOk_any A1 m1 d1 _ _ _ hr hm).mono ?_
      rintro e w1 ⟨rfl, rfl⟩
      rw [HO.out]
      go_wp2
      go_ret
      exact ⟨ret_bool HD.out.symm, B0.out⟩
    · have HA := jd (all_step hjl hall hok)
      have HO := jd hok
      clear hc hrow hcell hel1 hel2 hok hall
      go_wp2_with fail
      refine (sRowOk_any A1 m1 d1 _ _ _ hr hm).mono ?_
      rintro e w1 ⟨rfl, rfl⟩
      rw [HO.out]
      go_wp2
      go_round
      case rel => exact ⟨j + 1, by omega, by go_num, HA.out⟩
      case measure => simp [intOf]; omega
  · have hjn : j = d.kept.length := by have := HL1.out; omega
    have HK := jd (show d.kept.all rowOk = true by rw [hjn, List.take_of_length_le (Nat.le_refl _)] at hall; exact hall)
    clear hjn hall hel1 k0 k1
    have hi : ¬ ((j : Int) < (n : Int)) := by omega
    have k0 : w0.cell? ⟨w.heap.size, 0, none⟩ = some (.slice A n c) := P0.out.cell 0
    have k1 : w0.cell? ⟨w.heap.size, 1, none⟩ = some (.slice A' n' c') := P0.out.cell 1
    go_wp2
    go_loopw [4] (fun i wr => ∃ j : Nat, j ≤ n' ∧ i = .int .i64 (j : Int) ∧ (d.wait.take j).all (wrOk d) = true ∧ Below w0.heap.size w0 wr) (fun i _ => n' - (intOf i).toNat)
    case atStart => exact ⟨0, Nat.zero_le _, rfl, by simp, Below.refl _ _⟩
    case round =>
     obtain ⟨j2, hj2, rfl, hall2, hbel⟩ := hrel
     have pr := P0.out.keep hbel P0.out.lt
     have r0 : wr.cell? ⟨w.heap.size, 0, none⟩ = some (.slice A n c) := pr.cell 0
     have r1 : wr.cell? ⟨w.heap.size, 1, none⟩ = some (.slice A' n' c') := pr.cell 1
     have BR := jd (B0.out.trans (hbel.mono B0.out.size))
     have RR := jd hbel
     by_cases hlt2 : j2 < n'
     · obtain ⟨b, off, rfl, hb, hc⟩ := hel2 (by omega)
       have hjl : j2 < d.wait.length := by have := HL2.out; omega
       obtain ⟨A1, m1, d1, hcell, hcell2, hrow, hm1, hm2⟩ := hc j2 hjl
       have hm : m1 ≤ 1048577 := by
        have h1 := pre_at (g := wrSz) hjl
        have h2 := HS.out
        have h3 : wrSz d.wait[j2] = m1 := hrow.1
        unfold DiskM.sz waitSz at h2
        omega
       have hr := jd (hrow.below (BR.out.mono hB))
       have ce := (BR.out.cell (p := ⟨b, off + j2 * 2, none⟩) (show b < _ by omega)).trans hcell
       have ce2 := (BR.out.cell (p := ⟨b, off + j2 * 2 + 1, none⟩) (show b < _ by omega)).trans hcell2
       have hlt1 : b < w.heap.size := by omega
       obtain ⟨x, hx⟩ : ∃ x, x = d.wait[j2].1 := ⟨_, rfl⟩
       obtain ⟨xr, hxr⟩ : ∃ xr, xr = d.wait[j2].2 := ⟨_, rfl⟩
       have hwr : wrOk d d.wait[j2] = (hasS d x && rowOk xr) := by rw [hx, hxr]; rfl
       rw [← hx] at ce
       rw [← hxr] at hr
       have i0 : (0 : Int) ≤ (j2 : Int) := by omega
       have i1 : (j2 : Int) < (n' : Int) := by omega
       have HPR := jd pr
       have HALL := jd hall2
       have HWR := jd hwr
       clear hx hxr hc hrow hcell hcell2 hel2 pr hbel hall2 hwr
       cases hhas : hasS d x
       · have HH := jd hhas
         have HO := jd (rfl : rowOk xr = rowOk xr)
         have HD := jd (ok_wait_bad hjl (by rw [HWR.out, hhas]; rfl))
         clear hhas
         go_wp2_with fail
         first | (go_region_with
          (first
           | (go_at_call 147
              refine (sHas_any A (some ⟨b, off, none⟩) n c n' c' d x _ HL1.out hn).mono ?_
              rintro e w1 ⟨rfl, b1⟩
              rw [HH.out]
              have g0 : w1.cell? ⟨w.heap.size, 0, none⟩ = some (.slice A n c) := (b1.cell (p := ⟨w.heap.size, 0, none⟩) HPR.out.lt).trans r0
              have g1 : w1.cell? ⟨w.heap.size, 1, none⟩ = some (.slice (some ⟨b, off, none⟩) n' c') := (b1.cell (p := ⟨w.heap.size, 1, none⟩) HPR.out.lt).trans r1
              have hbw : b < wr.heap.size := by have := HPR.out.lt; omega
              have g2 : w1.cell? ⟨b, off + j2 * 2, none⟩ = some (.int .i64 x) := (b1.cell (p := ⟨b, off + j2 * 2, none⟩) hbw).trans ce
              have g3 : w1.cell? ⟨b, off + j2 * 2 + 1, none⟩ = some (.slice A1 m1 d1) := (b1.cell (p := ⟨b, off + j2 * 2 + 1, none⟩) hbw).trans ce2
              have B1 := jd (show Below wr.heap.size wr w1 from (Below.refl _ _).drew.trans b1)
              clear b1)
           | (go_at_call 146
              refine (sRowOk_any A1 m1 d1 B xr _ (hr.out.below (B1.out.mono (by have := HPR.out.lt; omega))) hm).mono ?_
              rintro e w2 ⟨rfl, rfl⟩
              rw [HO.out]))) | fail
         all_goals
          go_wp2
          go_ret
          exact ⟨ret_bool HD.out.symm, BR.out.trans (B1.out.mono BR.out.size)⟩
       · cases hrok : rowOk xr
         · have HH := jd hhas
           have HO := jd hrok
           have HD := jd (ok_wait_bad hjl (by rw [HWR.out, hhas, hrok]; rfl))
           clear hhas hrok
           go_wp2_with fail
           first | (go_region_held3 (fun v => v.cell? ⟨w.heap.size, 0, none⟩ = some (.slice A n c) ∧ v.cell? ⟨w.heap.size, 1, none⟩ = some (.slice (some ⟨b, off, none⟩) n' c') ∧ v.cell? ⟨b, off + j2 * 2, none⟩ = some (.int .i64 x) ∧ v.cell? ⟨b, off + j2 * 2 + 1, none⟩ = some (.slice A1 m1 d1)) (go_keep)
            (first
             | (go_at_call 147
                refine (sHas_any A (some ⟨b, off, none⟩) n c n' c' d x _ HL1.out hn).mono ?_
                rintro e w1 ⟨rfl, b1⟩
                rw [HH.out]
                have g0 : w1.cell? ⟨w.heap.size, 0, none⟩ = some (.slice A n c) := (b1.cell (p := ⟨w.heap.size, 0, none⟩) HPR.out.lt).trans r0
                have g1 : w1.cell? ⟨w.heap.size, 1, none⟩ = some (.slice (some ⟨b, off, none⟩) n' c') := (b1.cell (p := ⟨w.heap.size, 1, none⟩) HPR.out.lt).trans r1
                have hbw : b < wr.heap.size := by have := HPR.out.lt; omega
                have g2 : w1.cell? ⟨b, off + j2 * 2, none⟩ = some (.int .i64 x) := (b1.cell (p := ⟨b, off + j2 * 2, none⟩) hbw).trans ce
                have g3 : w1.cell? ⟨b, off + j2 * 2 + 1, none⟩ = some (.slice A1 m1 d1) := (b1.cell (p := ⟨b, off + j2 * 2 + 1, none⟩) hbw).trans ce2
                have B1 := jd (show Below wr.heap.size wr w1 from (Below.refl _ _).drew.trans b1)
                clear b1)
             | (go_at_call 146
                refine (sRowOk_any A1 m1 d1 B xr _ (hr.out.below (B1.out.mono (by have := HPR.out.lt; omega))) hm).mono ?_
                rintro e w2 ⟨rfl, rfl⟩
                rw [HO.out]))) | fail
           go_wp2
           go_ret
           exact ⟨ret_bool HD.out.symm, BR.out.trans (B1.out.mono BR.out.size)⟩
         · have HH := jd hhas
           have HO := jd hrok
           have HA := jd (all_step hjl HALL.out (by rw [HWR.out, hhas, hrok]; rfl))
           clear hhas hrok
           go_wp2_with fail
           first | (go_region_held3 (fun v => v.cell? ⟨w.heap.size, 0, none⟩ = some (.slice A n c) ∧ v.cell? ⟨w.heap.size, 1, none⟩ = some (.slice (some ⟨b, off, none⟩) n' c') ∧ v.cell? ⟨b, off + j2 * 2, none⟩ = some (.int .i64 x) ∧ v.cell? ⟨b, off + j2 * 2 + 1, none⟩ = some (.slice A1 m1 d1)) (go_keep)
            (first
             | (go_at_call 147
                refine (sHas_any A (some ⟨b, off, none⟩) n c n' c' d x _ HL1.out hn).mono ?_
                rintro e w1 ⟨rfl, b1⟩
                rw [HH.out]
                have g0 : w1.cell? ⟨w.heap.size, 0, none⟩ = some (.slice A n c) := (b1.cell (p := ⟨w.heap.size, 0, none⟩) HPR.out.lt).trans r0
                have g1 : w1.cell? ⟨w.heap.size, 1, none⟩ = some (.slice (some ⟨b, off, none⟩) n' c') := (b1.cell (p := ⟨w.heap.size, 1, none⟩) HPR.out.lt).trans r1
                have hbw : b < wr.heap.size := by have := HPR.out.lt; omega
                have g2 : w1.cell? ⟨b, off + j2 * 2, none⟩ = some (.int .i64 x) := (b1.cell (p := ⟨b, off + j2 * 2, none⟩) hbw).trans ce
                have g3 : w1.cell? ⟨b, off + j2 * 2 + 1, none⟩ = some (.slice A1 m1 d1) := (b1.cell (p := ⟨b, off + j2 * 2 + 1, none⟩) hbw).trans ce2
                have B1 := jd (show Below wr.heap.size wr w1 from (Below.refl _ _).drew.trans b1)
                clear b1)
             | (go_at_call 146
                refine (sRowOk_any A1 m1 d1 B xr _ (hr.out.below (B1.out.mono (by have := HPR.out.lt; omega))) hm).mono ?_
                rintro e w2 ⟨rfl, rfl⟩
                rw [HO.out]))) | fail
           go_wp2
           go_roundw
           case rel => exact ⟨j2 + 1, by omega, by go_num, HA.out, RR.out.trans (B1.out.mono RR.out.size)⟩
           case measure => simp [intOf]; omega
     · have hjn2 : j2 = d.wait.length := by have := HL2.out; omega
       have HD := jd (show diskOk d = true from diskOk_iff.2 ⟨⟨by have := HL1.out; omega, by have := HL1.out; omega⟩, by have := HL2.out; omega, HK.out, by rw [hjn2, List.take_of_length_le (Nat.le_refl _)] at hall2; exact hall2⟩)
       have hi2 : ¬ ((j2 : Int) < (n' : Int)) := by omega
       clear hjn2 hall2 hbel pr
       go_wp2
       go_ret
       exact ⟨ret_bool HD.out.symm, BR.out⟩
theorem rdKeptLen {w : World} {B : Nat} {d : DiskM} {A : Option Addr} {n c : Nat} {v : Value} (h : Rd w B d.cells [.slice A n c, v]) : d.kept.length = n := by
 obtain ⟨_, _, _, _, _, _, e, _, h1, _⟩ := h.disk
 injection e with e1 e2 e3
 subst e1 e2 e3
 obtain ⟨_, _, _, e, hl, _⟩ := h1.kept
 injection e with e1 e2 e3
 subst e1 e2 e3
 exact hl
set_option maxHeartbeats 3200000 in
theorem sTwoOk_any (Aa0 : Option Addr) (na0 ca0 : Nat) (Aa1 : Option Addr) (na1 ca1 : Nat) (Aa2 : Option Addr) (na2 ca2 : Nat) (Aa3 : Option Addr) (na3 ca3 : Nat) (t : TwoM) (B : Nat) (w : World) (h : Rd w B t.cells [.slice Aa0 na0 ca0, .slice Aa1 na1 ca1, .slice Aa2 na2 ca2, .slice Aa3 na3 ca3]) (hB : B ≤ w.heap.size) (hs : t.sz ≤ 1048577) :
    Calls Tryz.prog 66 #[.agg #[.slice Aa0 na0 ca0, .slice Aa1 na1 ca1, .slice Aa2 na2 ca2, .slice Aa3 na3 ca3]] w fun e w' => e = .returned (.bool (twoOk t)) ∧ Below w.heap.size w w' := by
 obtain ⟨ha, hb⟩ := h.halves
 have hsa : t.a.sz ≤ 1048577 := by unfold TwoM.sz at hs; omega
 have hsb : t.b.sz ≤ 1048577 := by unfold TwoM.sz at hs; omega
 cases hda : diskOk t.a
 case false =>
  have HT := jd (show twoOk t = false from twoOk_no (by simp [hda]))
  have HA := jd hda
  clear hda
  have S := Sep.nil w w.heap.size
  have c := Below.refl w.heap.size w
  replace S := S.boxAt c.size (w.heap.size) rfl #[.slice Aa0 na0 ca0, .slice Aa1 na1 ca1, .slice Aa2 na2 ca2, .slice Aa3 na3 ca3] 43
  replace c := al c S
  go_enter Tryz.func66, Tryz.ntmps66
  go_wp2_with fail
  generalize w.alloc (.cells #[.slice Aa0 na0 ca0, .slice Aa1 na1 ca1, .slice Aa2 na2 ca2, .slice Aa3 na3 ca3] 43) = w1 at *
  refine (sDiskOk_any _ _ t.a _ _ (ha.keep (c.mono hB)) (Nat.le_trans hB c.size) hsa).mono ?_
  rintro e w2 ⟨rfl, b⟩
  replace c := c.trans (b.mono c.size)
  replace S := S.keep b
  clear b
  rw [HA.out]
  have C := jd c
  clear S c ha hb h
  go_wp2
  go_ret
  exact ⟨ret_bool HT.out.symm, C.out⟩
 have HA := jd hda
 clear hda
 cases hdb : diskOk t.b
 case false =>
  have HT := jd (show twoOk t = false from twoOk_no (by simp [hdb]))
  have HB := jd hdb
  clear hdb
  have S := Sep.nil w w.heap.size
  have c := Below.refl w.heap.size w
  replace S := S.boxAt c.size (w.heap.size) rfl #[.slice Aa0 na0 ca0, .slice Aa1 na1 ca1, .slice Aa2 na2 ca2, .slice Aa3 na3 ca3] 43
  replace c := al c S
  go_enter Tryz.func66, Tryz.ntmps66
  go_wp2_with fail
  generalize w.alloc (.cells #[.slice Aa0 na0 ca0, .slice Aa1 na1 ca1, .slice Aa2 na2 ca2, .slice Aa3 na3 ca3] 43) = w1 at *
  refine (sDiskOk_any _ _ t.a _ _ (ha.keep (c.mono hB)) (Nat.le_trans hB c.size) hsa).mono ?_
  rintro e w2 ⟨rfl, b⟩
  replace c := c.trans (b.mono c.size)
  replace S := S.keep b
  clear b
  rw [HA.out]
  have f0 := lk S 0 2 rfl rfl
  have f1 := lk S 0 3 rfl rfl
  go_wp2_with fail
  refine (sDiskOk_any _ _ t.b _ _ (hb.keep (c.mono hB)) (Nat.le_trans hB c.size) hsb).mono ?_
  rintro e w3 ⟨rfl, b⟩
  replace c := c.trans (b.mono c.size)
  replace S := S.keep b
  clear b f0 f1
  rw [HB.out]
  have C := jd c
  clear S c ha hb h
  go_wp2
  go_ret
  exact ⟨ret_bool HT.out.symm, C.out⟩
 case true =>
  have hl0 := rdKeptLen ha
  have hl2 := rdKeptLen hb
  have hn0 : na0 ≤ 1048577 := by unfold DiskM.sz rowsSz at hsa; omega
  have hn2 : na2 ≤ 1048577 := by unfold DiskM.sz rowsSz at hsb; omega
  have HT := jd (show twoOk t = decide ((na0 : Int) = (na2 : Int)) by
   unfold twoOk
   rw [HA.out, hdb, hl0, hl2]
   simp only [Bool.true_and]
   exact decide_eq_decide.2 (by omega))
  have HB := jd hdb
  clear hdb hl0 hl2
  have S := Sep.nil w w.heap.size
  have c := Below.refl w.heap.size w
  replace S := S.boxAt c.size (w.heap.size) rfl #[.slice Aa0 na0 ca0, .slice Aa1 na1 ca1, .slice Aa2 na2 ca2, .slice Aa3 na3 ca3] 43
  replace c := al c S
  go_enter Tryz.func66, Tryz.ntmps66
  go_wp2_with fail
  generalize w.alloc (.cells #[.slice Aa0 na0 ca0, .slice Aa1 na1 ca1, .slice Aa2 na2 ca2, .slice Aa3 na3 ca3] 43) = w1 at *
  refine (sDiskOk_any _ _ t.a _ _ (ha.keep (c.mono hB)) (Nat.le_trans hB c.size) hsa).mono ?_
  rintro e w2 ⟨rfl, b⟩
  replace c := c.trans (b.mono c.size)
  replace S := S.keep b
  clear b
  rw [HA.out]
  have f0 := lk S 0 2 rfl rfl
  have f1 := lk S 0 3 rfl rfl
  go_wp2_with fail
  refine (sDiskOk_any _ _ t.b _ _ (hb.keep (c.mono hB)) (Nat.le_trans hB c.size) hsb).mono ?_
  rintro e w3 ⟨rfl, b⟩
  replace c := c.trans (b.mono c.size)
  replace S := S.keep b
  clear b f0 f1
  rw [HB.out]
  have f2 := lk S 0 0 rfl rfl
  have f3 := lk S 0 2 rfl rfl
  have C := jd c
  clear S c ha hb h
  go_wp2
  go_ret
  exact ⟨ret_bool HT.out.symm, C.out⟩
end Go.Proofs.YthjjdelpdiipdaaGreatDoor

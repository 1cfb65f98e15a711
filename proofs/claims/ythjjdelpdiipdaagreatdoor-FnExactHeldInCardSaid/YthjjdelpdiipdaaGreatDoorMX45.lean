/- Parts of my texts: KI TwoI1 HeadI1. -/
import Derived.Test.YthjjdelpdiipdaaGreatDoorMX28
import Derived.Test.YthjjdelpdiipdaaGreatDoorMX37
import Derived.LoopN
namespace Go.Proofs.YthjjdelpdiipdaaGreatDoor
set_option maxRecDepth 100000
set_option linter.unusedVariables false
open Go.RowKit
set_option maxHeartbeats 800000 in
theorem iHas_any (A A' : Option Addr) (n c n' c' : Nat) (d : DiskM) (i : Int) (w : World) (hl : d.kept.length = n) (_hn : n ≤ 1048577) :
    Calls Tryz.prog 167 #[.agg #[.slice A n c, .slice A' n' c'], .int .i64 i] w fun e w' => e = .returned (.bool (hasS d i)) ∧ Below w.heap.size w w' := by
 have B0 := jd ((Below.refl w.heap.size w).alloc (Nat.le_refl _) (.cells #[.slice A n c, .slice A' n' c'] 41))
 by_cases hi : 0 ≤ i
 · have HH := jd (show hasS d i = decide (i < (n : Int)) by
     unfold hasS
     rw [hl, decide_eq_true hi, Bool.true_and]
     exact decide_eq_decide.2 (by omega))
   clear hl
   go_enter Tryz.func167, Tryz.ntmps167
   go_wp2
   go_ret
   exact ⟨ret_bool HH.out.symm, B0.out⟩
 · have HH := jd (show hasS d i = false by
     unfold hasS
     rw [decide_eq_false hi, Bool.false_and])
   clear hl
   go_enter Tryz.func167, Tryz.ntmps167
   go_wp2
   go_ret
   exact ⟨ret_bool HH.out.symm, B0.out⟩
set_option maxHeartbeats 3200000 in
theorem iDiskOk_any (v0 v1 : Value) (d : DiskM) (B : Nat) (w : World) (h : Rd w B d.cells [v0, v1]) (hB : B ≤ w.heap.size) (hs : d.sz ≤ 1048577) :
    Calls Tryz.prog 137 #[.agg #[v0, v1]] w fun e w' => e = .returned (.bool (diskOk d)) ∧ Below w.heap.size w w' := by
 obtain ⟨A, n, c, A', n', c', rfl, rfl, h1, h2⟩ := h.disk
 obtain ⟨_, _, _, e, hl1, _, _, hel1⟩ := h1.kept
 injection e with e1 e2 e3
 subst e1 e2 e3
 obtain ⟨_, _, _, e, hl2, _, _, hel2⟩ := h2.wait
 injection e with e1 e2 e3
 subst e1 e2 e3
 have hn : n ≤ 1048577 := by unfold DiskM.sz rowsSz at hs; omega
 have hn' : n' ≤ 1048577 := by unfold DiskM.sz waitSz at hs; omega
 have HS := jd hs
 have HL1 := jd hl1
 have HL2 := jd hl2
 clear h h1 h2 hs hl1 hl2
 by_cases hbad : n < 1 ∨ 40 < n ∨ 60 < n'
 · have HD := jd (show diskOk d = false from diskOk_no fun h' => by
     have a1 := HL1.out
     have a2 := HL2.out
     omega)
   have B0 := jd ((Below.refl w.heap.size w).alloc (Nat.le_refl _) (.cells #[.slice A n c, .slice A' n' c'] 41))
   clear hel1 hel2
   rcases Nat.lt_or_ge n 1 with g1 | g1
   · go_enter Tryz.func137, Tryz.ntmps137
     go_wp2
     go_ret
     exact ⟨ret_bool HD.out.symm, B0.out⟩
   · rcases Nat.lt_or_ge 40 n with g2 | g2
     · go_enter Tryz.func137, Tryz.ntmps137
       go_wp2
       go_ret
       exact ⟨ret_bool HD.out.symm, B0.out⟩
     · have g3 : 60 < n' := by omega
       go_enter Tryz.func137, Tryz.ntmps137
       go_wp2
       go_ret
       exact ⟨ret_bool HD.out.symm, B0.out⟩
 have g1 : 1 ≤ n := by omega
 have g2 : n ≤ 40 := by omega
 have g3 : n' ≤ 60 := by omega
 clear hbad
 obtain ⟨w0, hw0⟩ : ∃ w0, w0 = w.alloc (.cells #[.slice A n c, .slice A' n' c'] 41) := ⟨_, rfl⟩
 have b0 : Below w.heap.size w w0 := by rw [hw0]; exact (Below.refl _ w).alloc (Nat.le_refl _) _
 have p0 : Blk w0 w.heap.size #[.slice A n c, .slice A' n' c'] 41 := by rw [hw0]; exact Blk.new w _ _
 have HW := jd hw0
 have k0 : w0.cell? ⟨w.heap.size, 0, none⟩ = some (.slice A n c) := p0.cell 0
 have k1 : w0.cell? ⟨w.heap.size, 1, none⟩ = some (.slice A' n' c') := p0.cell 1
 have P0 := jd p0
 have B0 := jd b0
 clear hw0 p0 b0
 go_enter Tryz.func137, Tryz.ntmps137
 go_wp2
 rw [← HW.out]
 go_loop [26] (fun i => ∃ j : Nat, j ≤ n ∧ i = .int .i64 (j : Int) ∧ (d.kept.take j).all rowOk = true) (fun i => n - (intOf i).toNat)
 case atStart => exact ⟨0, Nat.zero_le _, rfl, by simp⟩
 case round =>
  obtain ⟨j, hj, rfl, hall⟩ := hrel
  by_cases hlt : j < n
  · obtain ⟨b, off, rfl, hb, hc⟩ := hel1 (by omega)
    have hjl : j < d.kept.length := by have := HL1.out; omega
    obtain ⟨A1, m1, d1, hcell, hrow, hm1, hm2⟩ := hc j hjl
    have hm : m1 ≤ 1048577 := by
     have h1 := pre_at (g := List.length) hjl
     have h2 := HS.out
     have h3 := hrow.1
     unfold DiskM.sz rowsSz at h2
     omega
    have hr := hrow.below (B0.out.mono hB)
    have ce := (B0.out.cell (p := ⟨b, off + j, none⟩) (show b < _ by omega)).trans hcell
    cases hok : rowOk d.kept[j]
    · have HD := jd (ok_kept_bad hjl hok)
      have HO := jd hok
      clear hc hrow hcell hel1 hel2 hok
      go_wp2_with fail
      refine (iRowOk_any A1 m1 d1 _ _ _ hr hm).mono ?_
      rintro e w1 ⟨rfl, rfl⟩
      rw [HO.out]
      go_wp2
      go_ret
      exact ⟨ret_bool HD.out.symm, B0.out⟩
    · have HA := jd (all_step hjl hall hok)
      have HO := jd hok
      clear hc hrow hcell hel1 hel2 hok hall
      go_wp2_with fail
      refine (iRowOk_any A1 m1 d1 _ _ _ hr hm).mono ?_
      rintro e w1 ⟨rfl, rfl⟩
      rw [HO.out]
      go_wp2
      go_round
      case rel => exact ⟨j + 1, by omega, by go_num, HA.out⟩
      case measure => simp [intOf]; omega
  · have hjn : j = d.kept.length := by have := HL1.out; omega
    have HK := jd (show d.kept.all rowOk = true by rw [hjn, List.take_of_length_le (Nat.le_refl _)] at hall; exact hall)
    clear hjn hall hel1 k0 k1
    have hi : ¬ ((j : Int) < (n : Int)) := by omega
    have k0 : w0.cell? ⟨w.heap.size, 0, none⟩ = some (.slice A n c) := P0.out.cell 0
    have k1 : w0.cell? ⟨w.heap.size, 1, none⟩ = some (.slice A' n' c') := P0.out.cell 1
    go_wp2
    go_loopw [37] (fun i wr => ∃ j : Nat, j ≤ n' ∧ i = .int .i64 (j : Int) ∧ (d.wait.take j).all (wrOk d) = true ∧ Below w0.heap.size w0 wr) (fun i _ => n' - (intOf i).toNat)
    case atStart => exact ⟨0, Nat.zero_le _, rfl, by simp, Below.refl _ _⟩
    case round =>
     obtain ⟨j2, hj2, rfl, hall2, hbel⟩ := hrel
     have pr := P0.out.keep hbel P0.out.lt
     have BR := jd (B0.out.trans (hbel.mono B0.out.size))
     have RR := jd hbel
     by_cases hlt2 : j2 < n'
     · obtain ⟨b, off, rfl, hb, hc⟩ := hel2 (by omega)
       have hjl : j2 < d.wait.length := by have := HL2.out; omega
       obtain ⟨A1, m1, d1, hcell, hcell2, hrow, hm1, hm2⟩ := hc j2 hjl
       have hm : m1 ≤ 1048577 := by
        have h1 := pre_at (g := wrSz) hjl
        have h2 := HS.out
        have h3 : wrSz d.wait[j2] = m1 := hrow.1
        unfold DiskM.sz waitSz at h2
        omega
       have ce := (BR.out.cell (p := ⟨b, off + j2 * 2, none⟩) (show b < _ by omega)).trans hcell
       have ce2 := (BR.out.cell (p := ⟨b, off + j2 * 2 + 1, none⟩) (show b < _ by omega)).trans hcell2
       obtain ⟨x, hx⟩ : ∃ x, x = d.wait[j2].1 := ⟨_, rfl⟩
       obtain ⟨xr, hxr⟩ : ∃ xr, xr = d.wait[j2].2 := ⟨_, rfl⟩
       have hwr : wrOk d d.wait[j2] = (hasS d x && rowOk xr) := by rw [hx, hxr]; rfl
       rw [← hx] at ce
       have hrw : IRow w B A1 m1 xr := by rw [hxr]; exact hrow
       have i0 : (0 : Int) ≤ (j2 : Int) := by omega
       have i1 : (j2 : Int) < (n' : Int) := by omega
       have b2 : Below wr.heap.size wr (wr.alloc (.cells #[.int .i64 x, .slice A1 m1 d1] 166)) := (Below.refl _ _).alloc (Nat.le_refl _) _
       have p2 : Blk (wr.alloc (.cells #[.int .i64 x, .slice A1 m1 d1] 166)) wr.heap.size #[.int .i64 x, .slice A1 m1 d1] 166 := Blk.new wr _ _
       have pr2 := pr.keep b2 pr.lt
       have r0 : (wr.alloc (.cells #[.int .i64 x, .slice A1 m1 d1] 166)).cell? ⟨w.heap.size, 0, none⟩ = some (.slice A n c) := pr2.cell 0
       have r1 : (wr.alloc (.cells #[.int .i64 x, .slice A1 m1 d1] 166)).cell? ⟨w.heap.size, 1, none⟩ = some (.slice (some ⟨b, off, none⟩) n' c') := pr2.cell 1
       have q0 : (wr.alloc (.cells #[.int .i64 x, .slice A1 m1 d1] 166)).cell? ⟨wr.heap.size, 0, none⟩ = some (.int .i64 x) := p2.cell 0
       have q1 : (wr.alloc (.cells #[.int .i64 x, .slice A1 m1 d1] 166)).cell? ⟨wr.heap.size, 1, none⟩ = some (.slice A1 m1 d1) := p2.cell 1
       have R2 := jd (RR.out.trans (b2.mono RR.out.size))
       have HP2 := jd p2
       have HALL := jd hall2
       have HWR := jd hwr
       clear hx hxr hc hrow hcell hcell2 hel2 pr hbel hall2 hwr pr2 p2 b2 k0 k1 RR BR
       cases hhas : hasS d x
       · have HH := jd hhas
         have HD := jd (ok_wait_bad hjl (by rw [HWR.out, hhas]; rfl))
         clear hhas
         go_wp2_with fail
         generalize wr.alloc (.cells #[.int .i64 x, .slice A1 m1 d1] 166) = w2 at *
         refine (iHas_any A (some ⟨b, off, none⟩) n c n' c' d x _ HL1.out hn).mono ?_
         rintro e w3 ⟨rfl, b3⟩
         rw [HH.out]
         have B3 := jd (B0.out.trans ((R2.out.trans (b3.mono R2.out.size)).mono B0.out.size))
         clear b3 r0 r1 q0 q1
         go_wp2
         go_ret
         exact ⟨ret_bool HD.out.symm, B3.out⟩
       · cases hrok : rowOk xr
         · have HH := jd hhas
           have HO := jd hrok
           have HD := jd (ok_wait_bad hjl (by rw [HWR.out, hhas, hrok]; rfl))
           clear hhas hrok
           go_wp2_with fail
           generalize wr.alloc (.cells #[.int .i64 x, .slice A1 m1 d1] 166) = w2 at *
           refine (iHas_any A (some ⟨b, off, none⟩) n c n' c' d x _ HL1.out hn).mono ?_
           rintro e w3 ⟨rfl, b3⟩
           rw [HH.out]
           have b03 := R2.out.trans (b3.mono R2.out.size)
           have B3 := jd (B0.out.trans (b03.mono B0.out.size))
           have p3 := HP2.out.keep b3 HP2.out.lt
           have s1 : w3.cell? ⟨wr.heap.size, 1, none⟩ = some (.slice A1 m1 d1) := p3.cell 1
           have hr := hrw.below (B3.out.mono hB)
           clear b3 b03 r0 r1 q0 q1 p3
           go_wp2_with fail
           refine (iRowOk_any A1 m1 d1 B xr _ hr hm).mono ?_
           rintro e w4 ⟨rfl, rfl⟩
           rw [HO.out]
           clear hr
           go_wp2
           go_ret
           exact ⟨ret_bool HD.out.symm, B3.out⟩
         · have HH := jd hhas
           have HO := jd hrok
           have HA := jd (all_step hjl HALL.out (by rw [HWR.out, hhas, hrok]; rfl))
           clear hhas hrok
           go_wp2_with fail
           generalize wr.alloc (.cells #[.int .i64 x, .slice A1 m1 d1] 166) = w2 at *
           refine (iHas_any A (some ⟨b, off, none⟩) n c n' c' d x _ HL1.out hn).mono ?_
           rintro e w3 ⟨rfl, b3⟩
           rw [HH.out]
           have b03 := R2.out.trans (b3.mono R2.out.size)
           have B3 := jd (B0.out.trans (b03.mono B0.out.size))
           have R3 := jd b03
           have p3 := HP2.out.keep b3 HP2.out.lt
           have s1 : w3.cell? ⟨wr.heap.size, 1, none⟩ = some (.slice A1 m1 d1) := p3.cell 1
           have hr := hrw.below (B3.out.mono hB)
           clear b3 b03 r0 r1 q0 q1 p3
           go_wp2_with fail
           refine (iRowOk_any A1 m1 d1 B xr _ hr hm).mono ?_
           rintro e w4 ⟨rfl, rfl⟩
           rw [HO.out]
           clear hr
           go_wp2
           go_roundw
           case rel => exact ⟨j2 + 1, by omega, by go_num, HA.out, R3.out⟩
           case measure => simp [intOf]; omega
     · have hi2 : ¬ ((j2 : Int) < (n' : Int)) := by omega
       have HD := jd (show diskOk d = true from diskOk_iff.2 ⟨⟨by rw [HL1.out]; exact g1, by rw [HL1.out]; exact g2⟩, by rw [HL2.out]; exact g3, HK.out, by
        rw [List.take_of_length_le (by have := HL2.out; omega)] at hall2
        exact hall2⟩)
       go_wp2
       go_ret
       exact ⟨ret_bool HD.out.symm, BR.out⟩
end Go.Proofs.YthjjdelpdiipdaaGreatDoor
namespace Go.Proofs.YthjjdelpdiipdaaGreatDoor
set_option maxRecDepth 100000
open Go.RowKit
end Go.Proofs.YthjjdelpdiipdaaGreatDoor
namespace Go.Proofs.YthjjdelpdiipdaaGreatDoor
set_option maxRecDepth 100000
open Go.RowKit
end Go.Proofs.YthjjdelpdiipdaaGreatDoor
namespace Go.Proofs.YthjjdelpdiipdaaGreatDoor
set_option maxRecDepth 100000
open Go.RowKit
end Go.Proofs.YthjjdelpdiipdaaGreatDoor
namespace Go.Proofs.YthjjdelpdiipdaaGreatDoor
set_option maxRecDepth 100000
set_option linter.unusedVariables false
open Go.RowKit
set_option maxHeartbeats 3200000 in
theorem iDisks_any (Aa0 : Option Addr) (na0 ca0 : Nat) (Aa1 : Option Addr) (na1 ca1 : Nat) (Aa2 : Option Addr) (na2 ca2 : Nat) (Aa3 : Option Addr) (na3 ca3 : Nat) (w : World) : Calls Tryz.prog 98 #[.agg #[.slice Aa0 na0 ca0, .slice Aa1 na1 ca1, .slice Aa2 na2 ca2, .slice Aa3 na3 ca3]] w fun e w' => e = .returned (.agg #[.slice Aa0 na0 ca0, .slice Aa1 na1 ca1, .slice Aa2 na2 ca2, .slice Aa3 na3 ca3]) ∧ Below w.heap.size w w' := by
 have S := Sep.nil w w.heap.size
 have c := Below.refl w.heap.size w
 replace S := S.boxAt c.size (w.heap.size) rfl #[.slice Aa0 na0 ca0, .slice Aa1 na1 ca1, .slice Aa2 na2 ca2, .slice Aa3 na3 ca3] 43
 replace c := al c S
 replace S := S.boxAt c.size (w.heap.size + 1) (by simp) #[.slice Aa0 na0 ca0, .slice Aa1 na1 ca1, .slice Aa2 na2 ca2, .slice Aa3 na3 ca3] 139
 replace c := al c S
 go_enter Tryz.func98, Tryz.ntmps98
 have f0 := lk S 1 0 rfl rfl
 have f1 := lk S 1 1 rfl rfl
 have f2 := lk S 1 2 rfl rfl
 have f3 := lk S 1 3 rfl rfl
 have f4 := lk S 0 0 rfl rfl
 have f5 := lk S 0 1 rfl rfl
 have f6 := lk S 0 2 rfl rfl
 have f7 := lk S 0 3 rfl rfl
 have C := jd c
 clear S c
 go_wp2
 exact bodyPost_ret (v := .agg #[.slice Aa0 na0 ca0, .slice Aa1 na1 ca1, .slice Aa2 na2 ca2, .slice Aa3 na3 ca3]) (by simp [results, Tryz.results98, go_sem]) rfl ⟨rfl, C.out⟩
set_option maxHeartbeats 6400000 in
theorem iTwoOk_any (Aa0 : Option Addr) (na0 ca0 : Nat) (Aa1 : Option Addr) (na1 ca1 : Nat) (Aa2 : Option Addr) (na2 ca2 : Nat) (Aa3 : Option Addr) (na3 ca3 : Nat) (t : TwoM) (B : Nat) (w : World) (h : Rd w B t.cells [.slice Aa0 na0 ca0, .slice Aa1 na1 ca1, .slice Aa2 na2 ca2, .slice Aa3 na3 ca3]) (hB : B ≤ w.heap.size) (hs : t.sz ≤ 1048577) :
    Calls Tryz.prog 97 #[.agg #[.slice Aa0 na0 ca0, .slice Aa1 na1 ca1, .slice Aa2 na2 ca2, .slice Aa3 na3 ca3]] w fun e w' => e = .returned (.bool (twoOk t)) ∧ Below w.heap.size w w' := by
 obtain ⟨ha, hb⟩ := h.halves
 have hsa : t.a.sz ≤ 1048577 := by unfold TwoM.sz at hs; omega
 have hsb : t.b.sz ≤ 1048577 := by unfold TwoM.sz at hs; omega
 cases hda : diskOk t.a
 case false =>
  have HT := jd (show twoOk t = false from twoOk_no (by simp [hda]))
  have HA := jd hda
  clear hda
  have S := Sep.nil w w.heap.size
  have c := Below.refl w.heap.size w
  have hix0 : ∀ w9, (Instr.index 139 (.agg #[.slice Aa0 na0 ca0, .slice Aa1 na1 ca1, .slice Aa2 na2 ca2, .slice Aa3 na3 ca3]) (.int .i64 0)).run Tryz.prog w9 = .ok (.agg #[.slice Aa0 na0 ca0, .slice Aa1 na1 ca1]) w9 := fun _ => by kernel_rfl
  have hix1 : ∀ w9, (Instr.index 139 (.agg #[.slice Aa0 na0 ca0, .slice Aa1 na1 ca1, .slice Aa2 na2 ca2, .slice Aa3 na3 ca3]) (.int .i64 1)).run Tryz.prog w9 = .ok (.agg #[.slice Aa2 na2 ca2, .slice Aa3 na3 ca3]) w9 := fun _ => by kernel_rfl
  replace S := S.boxAt c.size (w.heap.size) rfl #[.slice Aa0 na0 ca0, .slice Aa1 na1 ca1, .slice Aa2 na2 ca2, .slice Aa3 na3 ca3] 43
  replace c := al c S
  go_enter Tryz.func97, Tryz.ntmps97
  have f0 := lk S 0 0 rfl rfl
  have f1 := lk S 0 1 rfl rfl
  have f2 := lk S 0 2 rfl rfl
  have f3 := lk S 0 3 rfl rfl
  go_wp2_with fail
  generalize w.alloc (.cells #[.slice Aa0 na0 ca0, .slice Aa1 na1 ca1, .slice Aa2 na2 ca2, .slice Aa3 na3 ca3] 43) = w1 at *
  refine (iDisks_any _ _ _ _ _ _ _ _ _ _ _ _ _).mono ?_
  rintro e w2 ⟨rfl, b⟩
  replace c := c.trans (b.mono c.size)
  replace S := S.keep b
  clear b f0 f1 f2 f3
  go_wp2
  refine wp_loop_rounds 3 ?_
  rw [rounds_succ]
  replace S := S.boxAt c.size (w2.heap.size) rfl #[.slice Aa0 na0 ca0, .slice Aa1 na1 ca1] 41
  replace c := al c S
  have f4 := lk S 0 0 rfl rfl
  have f5 := lk S 0 1 rfl rfl
  go_wp2_with fail
  generalize w2.alloc (.cells #[.slice Aa0 na0 ca0, .slice Aa1 na1 ca1] 41) = w3 at *
  refine (iDiskOk_any _ _ t.a _ _ (ha.keep (c.mono hB)) (Nat.le_trans hB c.size) hsa).mono ?_
  rintro e w4 ⟨rfl, b⟩
  replace c := c.trans (b.mono c.size)
  replace S := S.keep b
  clear b f4 f5
  rw [HA.out]
  have C := jd c
  clear S c ha hb h
  go_wp2
  go_ret
  exact ⟨ret_bool HT.out.symm, C.out⟩
 have HA := jd hda
 clear hda
 cases hdb : diskOk t.b
 case false =>
  have HT := jd (show twoOk t = false from twoOk_no (by simp [hdb]))
  have HB := jd hdb
  clear hdb
  have S := Sep.nil w w.heap.size
  have c := Below.refl w.heap.size w
  have hix0 : ∀ w9, (Instr.index 139 (.agg #[.slice Aa0 na0 ca0, .slice Aa1 na1 ca1, .slice Aa2 na2 ca2, .slice Aa3 na3 ca3]) (.int .i64 0)).run Tryz.prog w9 = .ok (.agg #[.slice Aa0 na0 ca0, .slice Aa1 na1 ca1]) w9 := fun _ => by kernel_rfl
  have hix1 : ∀ w9, (Instr.index 139 (.agg #[.slice Aa0 na0 ca0, .slice Aa1 na1 ca1, .slice Aa2 na2 ca2, .slice Aa3 na3 ca3]) (.int .i64 1)).run Tryz.prog w9 = .ok (.agg #[.slice Aa2 na2 ca2, .slice Aa3 na3 ca3]) w9 := fun _ => by kernel_rfl
  replace S := S.boxAt c.size (w.heap.size) rfl #[.slice Aa0 na0 ca0, .slice Aa1 na1 ca1, .slice Aa2 na2 ca2, .slice Aa3 na3 ca3] 43
  replace c := al c S
  go_enter Tryz.func97, Tryz.ntmps97
  have f0 := lk S 0 0 rfl rfl
  have f1 := lk S 0 1 rfl rfl
  have f2 := lk S 0 2 rfl rfl
  have f3 := lk S 0 3 rfl rfl
  go_wp2_with fail
  generalize w.alloc (.cells #[.slice Aa0 na0 ca0, .slice Aa1 na1 ca1, .slice Aa2 na2 ca2, .slice Aa3 na3 ca3] 43) = w1 at *
  refine (iDisks_any _ _ _ _ _ _ _ _ _ _ _ _ _).mono ?_
  rintro e w2 ⟨rfl, b⟩
  replace c := c.trans (b.mono c.size)
  replace S := S.keep b
  clear b f0 f1 f2 f3
  go_wp2
  refine wp_loop_rounds 3 ?_
  rw [rounds_succ]
  replace S := S.boxAt c.size (w2.heap.size) rfl #[.slice Aa0 na0 ca0, .slice Aa1 na1 ca1] 41
  replace c := al c S
  have f4 := lk S 0 0 rfl rfl
  have f5 := lk S 0 1 rfl rfl
  go_wp2_with fail
  generalize w2.alloc (.cells #[.slice Aa0 na0 ca0, .slice Aa1 na1 ca1] 41) = w3 at *
  refine (iDiskOk_any _ _ t.a _ _ (ha.keep (c.mono hB)) (Nat.le_trans hB c.size) hsa).mono ?_
  rintro e w4 ⟨rfl, b⟩
  replace c := c.trans (b.mono c.size)
  replace S := S.keep b
  clear b f4 f5
  rw [HA.out]
  go_wp2
  rw [rounds_succ]
  replace S := S.boxAt c.size (w4.heap.size) rfl #[.slice Aa2 na2 ca2, .slice Aa3 na3 ca3] 41
  replace c := al c S
  have f6 := lk S 0 0 rfl rfl
  have f7 := lk S 0 1 rfl rfl
  go_wp2_with fail
  generalize w4.alloc (.cells #[.slice Aa2 na2 ca2, .slice Aa3 na3 ca3] 41) = w5 at *
  refine (iDiskOk_any _ _ t.b _ _ (hb.keep (c.mono hB)) (Nat.le_trans hB c.size) hsb).mono ?_
  rintro e w6 ⟨rfl, b⟩
  replace c := c.trans (b.mono c.size)
  replace S := S.keep b
  clear b f6 f7
  rw [HB.out]
  have C := jd c
  clear S c ha hb h
  go_wp2
  go_ret
  exact ⟨ret_bool HT.out.symm, C.out⟩
 case true =>
  have hl0 := rdKeptLen ha
  have hl2 := rdKeptLen hb
  have hn0 : na0 ≤ 1048577 := by unfold DiskM.sz rowsSz at hsa; omega
  have hn2 : na2 ≤ 1048577 := by unfold DiskM.sz rowsSz at hsb; omega
  have HT := jd (show twoOk t = decide ((na0 : Int) = (na2 : Int)) by
   unfold twoOk
   rw [HA.out, hdb, hl0, hl2]
   simp only [Bool.true_and]
   exact decide_eq_decide.2 (by omega))
  have HB := jd hdb
  clear hdb hl0 hl2
  have S := Sep.nil w w.heap.size
  have c := Below.refl w.heap.size w
  have hix0 : ∀ w9, (Instr.index 139 (.agg #[.slice Aa0 na0 ca0, .slice Aa1 na1 ca1, .slice Aa2 na2 ca2, .slice Aa3 na3 ca3]) (.int .i64 0)).run Tryz.prog w9 = .ok (.agg #[.slice Aa0 na0 ca0, .slice Aa1 na1 ca1]) w9 := fun _ => by kernel_rfl
  have hix1 : ∀ w9, (Instr.index 139 (.agg #[.slice Aa0 na0 ca0, .slice Aa1 na1 ca1, .slice Aa2 na2 ca2, .slice Aa3 na3 ca3]) (.int .i64 1)).run Tryz.prog w9 = .ok (.agg #[.slice Aa2 na2 ca2, .slice Aa3 na3 ca3]) w9 := fun _ => by kernel_rfl
  replace S := S.boxAt c.size (w.heap.size) rfl #[.slice Aa0 na0 ca0, .slice Aa1 na1 ca1, .slice Aa2 na2 ca2, .slice Aa3 na3 ca3] 43
  replace c := al c S
  go_enter Tryz.func97, Tryz.ntmps97
  have f0 := lk S 0 0 rfl rfl
  have f1 := lk S 0 1 rfl rfl
  have f2 := lk S 0 2 rfl rfl
  have f3 := lk S 0 3 rfl rfl
  go_wp2_with fail
  generalize w.alloc (.cells #[.slice Aa0 na0 ca0, .slice Aa1 na1 ca1, .slice Aa2 na2 ca2, .slice Aa3 na3 ca3] 43) = w1 at *
  refine (iDisks_any _ _ _ _ _ _ _ _ _ _ _ _ _).mono ?_
  rintro e w2 ⟨rfl, b⟩
  replace c := c.trans (b.mono c.size)
  replace S := S.keep b
  clear b f0 f1 f2 f3
  go_wp2
  refine wp_loop_rounds 3 ?_
  rw [rounds_succ]
  replace S := S.boxAt c.size (w2.heap.size) rfl #[.slice Aa0 na0 ca0, .slice Aa1 na1 ca1] 41
  replace c := al c S
  have f4 := lk S 0 0 rfl rfl
  have f5 := lk S 0 1 rfl rfl
  go_wp2_with fail
  generalize w2.alloc (.cells #[.slice Aa0 na0 ca0, .slice Aa1 na1 ca1] 41) = w3 at *
  refine (iDiskOk_any _ _ t.a _ _ (ha.keep (c.mono hB)) (Nat.le_trans hB c.size) hsa).mono ?_
  rintro e w4 ⟨rfl, b⟩
  replace c := c.trans (b.mono c.size)
  replace S := S.keep b
  clear b f4 f5
  rw [HA.out]
  go_wp2
  rw [rounds_succ]
  replace S := S.boxAt c.size (w4.heap.size) rfl #[.slice Aa2 na2 ca2, .slice Aa3 na3 ca3] 41
  replace c := al c S
  have f6 := lk S 0 0 rfl rfl
  have f7 := lk S 0 1 rfl rfl
  go_wp2_with fail
  generalize w4.alloc (.cells #[.slice Aa2 na2 ca2, .slice Aa3 na3 ca3] 41) = w5 at *
  refine (iDiskOk_any _ _ t.b _ _ (hb.keep (c.mono hB)) (Nat.le_trans hB c.size) hsb).mono ?_
  rintro e w6 ⟨rfl, b⟩
  replace c := c.trans (b.mono c.size)
  replace S := S.keep b
  clear b f6 f7
  rw [HB.out]
  go_wp2
  rw [rounds_succ]
  have f8 := lk S 2 0 rfl rfl
  have f9 := lk S 2 2 rfl rfl
  have C := jd c
  clear S c ha hb h
  go_wp2
  go_ret
  exact ⟨ret_bool HT.out.symm, C.out⟩
set_option maxHeartbeats 3200000 in
theorem iKeptOk_any (Aa0 : Option Addr) (na0 ca0 : Nat) (Aa1 : Option Addr) (na1 ca1 : Nat) (Aa2 : Option Addr) (na2 ca2 : Nat) (Aa3 : Option Addr) (na3 ca3 : Nat) (t : TwoM) (B : Nat) (w : World) (h : Rd w B t.cells [.slice Aa0 na0 ca0, .slice Aa1 na1 ca1, .slice Aa2 na2 ca2, .slice Aa3 na3 ca3]) (hB : B ≤ w.heap.size) (hs : t.sz ≤ 1048577) :
    Calls Tryz.prog 79 #[.agg #[.slice Aa0 na0 ca0, .slice Aa1 na1 ca1, .slice Aa2 na2 ca2, .slice Aa3 na3 ca3]] w fun e w' => e = .returned (.bool (keptB t)) ∧ Below w.heap.size w w' := by
 have hn0 : t.a.kept.length = na0 := rdKeptLen h.halves.1
 have HH := jd h
 clear h
 have S := Sep.nil w w.heap.size
 have c := Below.refl w.heap.size w
 replace S := S.boxAt c.size (w.heap.size) rfl #[.slice Aa0 na0 ca0, .slice Aa1 na1 ca1, .slice Aa2 na2 ca2, .slice Aa3 na3 ca3] 43
 replace c := al c S
 go_enter Tryz.func79, Tryz.ntmps79
 have f0 := lk S 0 0 rfl rfl
 have f1 := lk S 0 1 rfl rfl
 have f2 := lk S 0 2 rfl rfl
 have f3 := lk S 0 3 rfl rfl
 go_wp2_with fail
 generalize w.alloc (.cells #[.slice Aa0 na0 ca0, .slice Aa1 na1 ca1, .slice Aa2 na2 ca2, .slice Aa3 na3 ca3] 43) = w1 at *
 refine (iTwoOk_any Aa0 na0 ca0 Aa1 na1 ca1 Aa2 na2 ca2 Aa3 na3 ca3 t B _ (HH.out.keep (c.mono hB)) (Nat.le_trans hB c.size) hs).mono ?_
 rintro e w2 ⟨rfl, b2⟩
 replace c := c.trans (b2.mono c.size)
 replace S := S.keep b2
 clear b2 f0 f1 f2 f3
 cases hok : twoOk t
 case false =>
  have HV := jd (show false = keptB t by unfold keptB; rw [hok]; rfl)
  have CC := jd c
  clear S c hok hn0
  go_wp2
  go_ret
  exact ⟨ret_bool HV.out, CC.out⟩
 case true =>
  obtain ⟨g5, hg5⟩ : ∃ g, ((na0 : Int) == 22) = g := ⟨_, rfl⟩
  have hg6 : decide ((na0 : Int) = 22) = g5 := by rw [← hg5]; rfl
  have HV := jd (show g5 = keptB t by
   unfold keptB
   rw [hok, ← hg5, Bool.true_and, hn0, Bool.eq_iff_iff, beq_iff_eq, decide_eq_true_eq]
   omega)
  clear hok hn0
  have f4 := lk S 0 0 rfl rfl
  have f5 := lk S 0 1 rfl rfl
  have f6 := lk S 0 2 rfl rfl
  have f7 := lk S 0 3 rfl rfl
  have CC := jd c
  clear S c
  go_wp2
  go_ret
  exact ⟨ret_bool HV.out, CC.out⟩
end Go.Proofs.YthjjdelpdiipdaaGreatDoor

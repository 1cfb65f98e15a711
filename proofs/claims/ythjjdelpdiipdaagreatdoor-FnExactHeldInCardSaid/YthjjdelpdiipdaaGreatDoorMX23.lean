/- Parts of my texts: EntS4. -/
import Derived.Test.YthjjdelpdiipdaaGreatDoorMX18
namespace Go.Proofs.YthjjdelpdiipdaaGreatDoor
set_option maxRecDepth 100000
set_option linter.unusedVariables false
open Go.RowKit
set_option maxHeartbeats 12800000 in
theorem sEntries_any (A : Option Addr) (n cc B : Nat) (l : List EntM) (w : World) (h : Rd w B [entD l] [.slice A n cc]) (hB : B ≤ w.heap.size) (hs : entSz l ≤ 1048577) :
    Calls Tryz.prog 70 #[.slice A n cc] w fun e w' => e = .returned (.bool (entsB l)) ∧ Below w.heap.size w w' := by
 obtain ⟨_, _, _, e, hl, _, _, hel⟩ := h.ents
 injection e with e1 e2 e3
 subst e1 e2 e3
 have HL := jd hl
 have hn : n ≤ 1048577 := by unfold entSz at hs; omega
 clear h hl hs
 by_cases h16 : 2000 < n
 case pos =>
  have HD := jd (entsB_long (l := l) (by have := HL.out; omega))
  clear hel
  go_enter Tryz.func70, Tryz.ntmps70
  go_wp2
  go_ret
  exact ⟨ret_bool HD.out.symm, Below.refl _ _⟩
 case neg =>
  go_enter Tryz.func70, Tryz.ntmps70
  go_wp2
  go_loopw [3] (fun i wr => ∃ j : Nat, j ≤ n ∧ i = .int .i64 (j : Int) ∧ (∀ q, q < j → entsAt l q = true) ∧ Below w.heap.size w wr) (fun i _ => n - (intOf i).toNat)
  case atStart => exact ⟨0, Nat.zero_le _, rfl, fun q hq => absurd hq (by omega), Below.refl _ _⟩
  case round =>
   obtain ⟨j, hj, rfl, hall, c⟩ := hrel
   by_cases hlt : j < n
   · obtain ⟨b, off, rfl, hb, hc⟩ := hel (by omega)
     have hjl : j < l.length := by have := HL.out; omega
     obtain ⟨hc0, hc1, hc2, hc3, hc4, hc5, hc6, hc7, hc8⟩ := hc j hjl
     have cs0 := cu c hc0 (show b < _ by omega)
     have cs1 := cu c hc1 (show b < _ by omega)
     have cs2 := cu c hc2 (show b < _ by omega)
     have cs3 := cu c hc3 (show b < _ by omega)
     have cs4 := cu c hc4 (show b < _ by omega)
     have cs5 := cu c hc5 (show b < _ by omega)
     have cs6 := cu c hc6 (show b < _ by omega)
     have cs7 := cu c hc7 (show b < _ by omega)
     have cs8 := cu c hc8 (show b < _ by omega)
     obtain ⟨x0, hx0⟩ : ∃ q, q = l[j].idx := ⟨_, rfl⟩
     rw [← hx0] at cs0
     obtain ⟨x1, hx1⟩ : ∃ q, q = l[j].tm := ⟨_, rfl⟩
     rw [← hx1] at cs1
     obtain ⟨x2, hx2⟩ : ∃ q, q = l[j].cl := ⟨_, rfl⟩
     rw [← hx2] at cs2
     obtain ⟨x3, hx3⟩ : ∃ q, q = l[j].sq := ⟨_, rfl⟩
     rw [← hx3] at cs3
     obtain ⟨x4, hx4⟩ : ∃ q, q = l[j].kd := ⟨_, rfl⟩
     rw [← hx4] at cs4
     obtain ⟨x5, hx5⟩ : ∃ q, q = l[j].oa := ⟨_, rfl⟩
     rw [← hx5] at cs5
     obtain ⟨x6, hx6⟩ : ∃ q, q = l[j].ob := ⟨_, rfl⟩
     rw [← hx6] at cs6
     obtain ⟨x7, hx7⟩ : ∃ q, q = l[j].oc := ⟨_, rfl⟩
     rw [← hx7] at cs7
     obtain ⟨x8, hx8⟩ : ∃ q, q = l[j].od := ⟨_, rfl⟩
     rw [← hx8] at cs8
     have hmk : l[j] = ⟨x0, x1, x2, x3, x4, x5, x6, x7, x8⟩ := by rw [hx0, hx1, hx2, hx3, hx4, hx5, hx6, hx7, hx8]
     have HS := jd (show entsAt l j = (entB ⟨x0, x1, x2, x3, x4, x5, x6, x7, x8⟩ && nextAt l j) by rw [entsAt_eq hjl, hmk])
     have HA := jd hall
     have HJ := jd hjl
     have C := jd c
     have zb := c.size
     have HM := jd hmk
     have HX0 := jd hx0
     have HX1 := jd hx1
     clear hmk hx0 hx1 hx2 hx3 hx4 hx5 hx6 hx7 hx8 hc0 hc1 hc2 hc3 hc4 hc5 hc6 hc7 hc8
     cases p1 : entB ⟨x0, x1, x2, x3, x4, x5, x6, x7, x8⟩
     case false =>
      have P1 := jd p1
      clear hall c hc hel
      go_wp2_with fail
      refine wp_region_cls (fun v => v.cell? ⟨b, off + j * 9, none⟩ = some (.int .i64 x0) ∧ v.cell? ⟨b, off + j * 9 + 1, none⟩ = some (.int .i64 x1) ∧ v.cell? ⟨b, off + j * 9 + 2, none⟩ = some (.int .i64 x2) ∧ v.cell? ⟨b, off + j * 9 + 3, none⟩ = some (.int .i64 x3) ∧ v.cell? ⟨b, off + j * 9 + 4, none⟩ = some (.int .i64 x4) ∧ v.cell? ⟨b, off + j * 9 + 5, none⟩ = some (.int .i64 x5) ∧ v.cell? ⟨b, off + j * 9 + 6, none⟩ = some (.int .i64 x6) ∧ v.cell? ⟨b, off + j * 9 + 7, none⟩ = some (.int .i64 x7) ∧ v.cell? ⟨b, off + j * 9 + 8, none⟩ = some (.int .i64 x8)) (by kernel_rfl) (by kernel_rfl) (fun v hv => ⟨cq hv cs0, cq hv cs1, cq hv cs2, cq hv cs3, cq hv cs4, cq hv cs5, cq hv cs6, cq hv cs7, cq hv cs8⟩) ?_
      intro CL HF HC
      repeat
       (first
          | go_big_quiet_skip
          | (go_big_quiet_want
             go_big_quiet_op
             first
              | go_big_quiet_on
              | (apply Exists.intro
                 refine ⟨fun v hv => ?_, ?_⟩
                 · obtain ⟨a0, a1, a2, a3, a4, a5, a6, a7, a8⟩ := HF v hv
                   first
                    | (go_at_call 110; exact Calls.cls HC hv (sEntryOk_any x0 x1 x2 x3 x4 x5 x6 x7 x8 v) (congrArg Value.bool p1))
                    | exact rfl
                    | (go_simp; exact rfl)
                    | (go_simp; exact ⟨rfl, hv⟩)
                 go_big_quiet_on)))
      refine wpQuiet_nil ?_
      intro w3 b3
      have CC := jd (C.out.trans (b3.mono C.out.size))
      go_wp2
      go_ret
      exact ⟨ret_bool (entsB_step HJ.out (by rw [HS.out]; rw [P1.out]; rfl)).symm, CC.out⟩
     case true =>
     have P1 := jd p1
     by_cases hj0 : j = 0
     case pos =>
      subst hj0
      have zz : decide ((0 : Int) > 0) = false := rfl
      have cz0 := cs0
      have cz1 := cs1
      have cz2 := cs2
      have cz3 := cs3
      have cz4 := cs4
      have cz5 := cs5
      have cz6 := cs6
      have cz7 := cs7
      have cz8 := cs8
      simp only [Nat.zero_mul, Nat.add_zero] at cs0 cs1 cs2 cs3 cs4 cs5 cs6 cs7 cs8
      clear hall c hc hel cz0 cz1 cz2 cz3 cz4 cz5 cz6 cz7 cz8
      go_wp2_with fail
      refine wp_region_cls (fun v => v.cell? ⟨b, off, none⟩ = some (.int .i64 x0) ∧ v.cell? ⟨b, off + 1, none⟩ = some (.int .i64 x1) ∧ v.cell? ⟨b, off + 2, none⟩ = some (.int .i64 x2) ∧ v.cell? ⟨b, off + 3, none⟩ = some (.int .i64 x3) ∧ v.cell? ⟨b, off + 4, none⟩ = some (.int .i64 x4) ∧ v.cell? ⟨b, off + 5, none⟩ = some (.int .i64 x5) ∧ v.cell? ⟨b, off + 6, none⟩ = some (.int .i64 x6) ∧ v.cell? ⟨b, off + 7, none⟩ = some (.int .i64 x7) ∧ v.cell? ⟨b, off + 8, none⟩ = some (.int .i64 x8)) (by kernel_rfl) (by kernel_rfl) (fun v hv => ⟨cq hv cs0, cq hv cs1, cq hv cs2, cq hv cs3, cq hv cs4, cq hv cs5, cq hv cs6, cq hv cs7, cq hv cs8⟩) ?_
      intro CL HF HC
      repeat
       (first
          | go_big_quiet_skip
          | (go_big_quiet_want
             go_big_quiet_op
             first
              | go_big_quiet_on
              | (apply Exists.intro
                 refine ⟨fun v hv => ?_, ?_⟩
                 · obtain ⟨a0, a1, a2, a3, a4, a5, a6, a7, a8⟩ := HF v hv
                   first
                    | (go_at_call 110; exact Calls.cls HC hv (sEntryOk_any x0 x1 x2 x3 x4 x5 x6 x7 x8 v) (congrArg Value.bool p1))
                    | exact rfl
                    | (go_simp; exact rfl)
                    | (go_simp; exact ⟨rfl, hv⟩)
                 go_big_quiet_on)))
      refine wpQuiet_nil ?_
      intro w3 b3
      have CC := jd (C.out.trans (b3.mono C.out.size))
      have HN := jd (show ∀ q, q < 0 + 1 → entsAt l q = true from fun q hq => by
       rcases Nat.lt_or_ge q (0) with h1 | h1
       · exact HA.out q h1
       · have : q = 0 := by omega
         subst this
         rw [HS.out]
         rw [P1.out]; rfl)
      go_wp2
      go_roundw
      case rel => exact ⟨0 + 1, by omega, by go_num, HN.out, CC.out⟩
      case measure => simp [intOf]; omega
     case neg =>
      obtain ⟨k, rfl⟩ : ∃ k, j = k + 1 := ⟨j - 1, by omega⟩
      have hkl : k < l.length := by omega
      obtain ⟨hd0, hd1, _⟩ := hc k hkl
      have ct0 := cu c hd0 (show b < _ by omega)
      have ct1 := cu c hd1 (show b < _ by omega)
      obtain ⟨y0, hy0⟩ : ∃ q, q = l[k].idx := ⟨_, rfl⟩
      obtain ⟨y1, hy1⟩ : ∃ q, q = l[k].tm := ⟨_, rfl⟩
      rw [← hy0] at ct0
      rw [← hy1] at ct1
      have hyb : 1 ≤ y0 ∧ y0 ≤ 2000 := by
       have h9 := hall k (by omega)
       rw [entsAt_eq hkl, Bool.and_eq_true] at h9
       rw [hy0]
       exact ((entB_iff _).1 h9.1).1
      have HCA := jd (show nextAt l (k + 1) = (decide (x0 = y0 + 1) && decide (y1 ≤ x1)) by rw [nextAt_succ HJ.out, HX0.out, HX1.out, hy0, hy1])
      have k0' : (0 : Int) ≤ (k : Int) := by omega
      have k1' : (k : Int) < (n : Int) := by omega
      have ep : IntKind.i64.wrap (k : Int) = (k : Int) := by rw [IntKind.wrap_i64]; omega
      have ew : IntKind.i64.wrap (y0 + 1) = y0 + 1 := by rw [IntKind.wrap_i64]; omega
      have zz : decide ((k : Int) + 1 > 0) = true := decide_eq_true (by omega)
      have zy : decide (0 < (k : Int) + 1) = true := decide_eq_true (by omega)
      clear hall c hc hel hd0 hd1 hy0 hy1 hj0 hyb
      by_cases q1 : x0 = y0 + 1
      case neg =>
       have e1 : (x0 == y0 + 1) = false := by simp; omega
       have e2 : (x0 != y0 + 1) = true := by simp; omega
       go_wp2_with fail
       refine wp_region_cls (fun v => v.cell? ⟨b, off + (k + 1) * 9, none⟩ = some (.int .i64 x0) ∧ v.cell? ⟨b, off + (k + 1) * 9 + 1, none⟩ = some (.int .i64 x1) ∧ v.cell? ⟨b, off + (k + 1) * 9 + 2, none⟩ = some (.int .i64 x2) ∧ v.cell? ⟨b, off + (k + 1) * 9 + 3, none⟩ = some (.int .i64 x3) ∧ v.cell? ⟨b, off + (k + 1) * 9 + 4, none⟩ = some (.int .i64 x4) ∧ v.cell? ⟨b, off + (k + 1) * 9 + 5, none⟩ = some (.int .i64 x5) ∧ v.cell? ⟨b, off + (k + 1) * 9 + 6, none⟩ = some (.int .i64 x6) ∧ v.cell? ⟨b, off + (k + 1) * 9 + 7, none⟩ = some (.int .i64 x7) ∧ v.cell? ⟨b, off + (k + 1) * 9 + 8, none⟩ = some (.int .i64 x8) ∧ v.cell? ⟨b, off + k * 9, none⟩ = some (.int .i64 y0) ∧ v.cell? ⟨b, off + k * 9 + 1, none⟩ = some (.int .i64 y1)) (by kernel_rfl) (by kernel_rfl) (fun v hv => ⟨cq hv cs0, cq hv cs1, cq hv cs2, cq hv cs3, cq hv cs4, cq hv cs5, cq hv cs6, cq hv cs7, cq hv cs8, cq hv ct0, cq hv ct1⟩) ?_
       intro CL HF HC
       repeat
        (first
           | go_big_quiet_skip
           | (go_big_quiet_want
              go_big_quiet_op
              first
               | go_big_quiet_on
               | (apply Exists.intro
                  refine ⟨fun v hv => ?_, ?_⟩
                  · obtain ⟨a0, a1, a2, a3, a4, a5, a6, a7, a8, a9, a10⟩ := HF v hv
                    first
                     | (go_at_call 110; exact Calls.cls HC hv (sEntryOk_any x0 x1 x2 x3 x4 x5 x6 x7 x8 v) (congrArg Value.bool p1))
                     | exact rfl
                     | (go_simp; exact rfl)
                     | (go_simp; exact ⟨rfl, hv⟩)
                  go_big_quiet_on)))
       refine wpQuiet_nil ?_
       intro w3 b3
       have CC := jd (C.out.trans (b3.mono C.out.size))
       go_wp2
       go_ret
       exact ⟨ret_bool (entsB_step HJ.out (by rw [HS.out]; rw [P1.out, HCA.out, decide_eq_false q1]; rfl)).symm, CC.out⟩
      case pos =>
       subst q1
       by_cases q2 : x1 < y1
       case pos =>
        have e3 : decide (x1 < y1) = true := decide_eq_true q2
        have e1 : (y0 + 1 != y0 + 1) = false := by simp
        have e2 : (y0 + 1 == y0 + 1) = true := by simp
        go_wp2_with fail
        refine wp_region_cls (fun v => v.cell? ⟨b, off + (k + 1) * 9, none⟩ = some (.int .i64 (y0 + 1)) ∧ v.cell? ⟨b, off + (k + 1) * 9 + 1, none⟩ = some (.int .i64 x1) ∧ v.cell? ⟨b, off + (k + 1) * 9 + 2, none⟩ = some (.int .i64 x2) ∧ v.cell? ⟨b, off + (k + 1) * 9 + 3, none⟩ = some (.int .i64 x3) ∧ v.cell? ⟨b, off + (k + 1) * 9 + 4, none⟩ = some (.int .i64 x4) ∧ v.cell? ⟨b, off + (k + 1) * 9 + 5, none⟩ = some (.int .i64 x5) ∧ v.cell? ⟨b, off + (k + 1) * 9 + 6, none⟩ = some (.int .i64 x6) ∧ v.cell? ⟨b, off + (k + 1) * 9 + 7, none⟩ = some (.int .i64 x7) ∧ v.cell? ⟨b, off + (k + 1) * 9 + 8, none⟩ = some (.int .i64 x8) ∧ v.cell? ⟨b, off + k * 9, none⟩ = some (.int .i64 y0) ∧ v.cell? ⟨b, off + k * 9 + 1, none⟩ = some (.int .i64 y1)) (by kernel_rfl) (by kernel_rfl) (fun v hv => ⟨cq hv cs0, cq hv cs1, cq hv cs2, cq hv cs3, cq hv cs4, cq hv cs5, cq hv cs6, cq hv cs7, cq hv cs8, cq hv ct0, cq hv ct1⟩) ?_
        intro CL HF HC
        repeat
         (first
            | go_big_quiet_skip
            | (go_big_quiet_want
               go_big_quiet_op
               first
                | go_big_quiet_on
                | (apply Exists.intro
                   refine ⟨fun v hv => ?_, ?_⟩
                   · obtain ⟨a0, a1, a2, a3, a4, a5, a6, a7, a8, a9, a10⟩ := HF v hv
                     first
                      | (go_at_call 110; exact Calls.cls HC hv (sEntryOk_any (y0 + 1) x1 x2 x3 x4 x5 x6 x7 x8 v) (congrArg Value.bool p1))
                      | exact rfl
                      | (go_simp; exact rfl)
                      | (go_simp; exact ⟨rfl, hv⟩)
                   go_big_quiet_on)))
        refine wpQuiet_nil ?_
        intro w3 b3
        have CC := jd (C.out.trans (b3.mono C.out.size))
        go_wp2
        go_ret
        exact ⟨ret_bool (entsB_step HJ.out (by rw [HS.out]; rw [P1.out, HCA.out, decide_eq_false (show ¬ y1 ≤ x1 by omega)]; simp)).symm, CC.out⟩
       case neg =>
        have e3 : decide (x1 < y1) = false := decide_eq_false q2
        have e1 : (y0 + 1 != y0 + 1) = false := by simp
        have e2 : (y0 + 1 == y0 + 1) = true := by simp
        go_wp2_with fail
        refine wp_region_cls (fun v => v.cell? ⟨b, off + (k + 1) * 9, none⟩ = some (.int .i64 (y0 + 1)) ∧ v.cell? ⟨b, off + (k + 1) * 9 + 1, none⟩ = some (.int .i64 x1) ∧ v.cell? ⟨b, off + (k + 1) * 9 + 2, none⟩ = some (.int .i64 x2) ∧ v.cell? ⟨b, off + (k + 1) * 9 + 3, none⟩ = some (.int .i64 x3) ∧ v.cell? ⟨b, off + (k + 1) * 9 + 4, none⟩ = some (.int .i64 x4) ∧ v.cell? ⟨b, off + (k + 1) * 9 + 5, none⟩ = some (.int .i64 x5) ∧ v.cell? ⟨b, off + (k + 1) * 9 + 6, none⟩ = some (.int .i64 x6) ∧ v.cell? ⟨b, off + (k + 1) * 9 + 7, none⟩ = some (.int .i64 x7) ∧ v.cell? ⟨b, off + (k + 1) * 9 + 8, none⟩ = some (.int .i64 x8) ∧ v.cell? ⟨b, off + k * 9, none⟩ = some (.int .i64 y0) ∧ v.cell? ⟨b, off + k * 9 + 1, none⟩ = some (.int .i64 y1)) (by kernel_rfl) (by kernel_rfl) (fun v hv => ⟨cq hv cs0, cq hv cs1, cq hv cs2, cq hv cs3, cq hv cs4, cq hv cs5, cq hv cs6, cq hv cs7, cq hv cs8, cq hv ct0, cq hv ct1⟩) ?_
        intro CL HF HC
        repeat
         (first
            | go_big_quiet_skip
            | (go_big_quiet_want
               go_big_quiet_op
               first
                | go_big_quiet_on
                | (apply Exists.intro
                   refine ⟨fun v hv => ?_, ?_⟩
                   · obtain ⟨a0, a1, a2, a3, a4, a5, a6, a7, a8, a9, a10⟩ := HF v hv
                     first
                      | (go_at_call 110; exact Calls.cls HC hv (sEntryOk_any (y0 + 1) x1 x2 x3 x4 x5 x6 x7 x8 v) (congrArg Value.bool p1))
                      | exact rfl
                      | (go_simp; exact rfl)
                      | (go_simp; exact ⟨rfl, hv⟩)
                   go_big_quiet_on)))
        refine wpQuiet_nil ?_
        intro w3 b3
        have CC := jd (C.out.trans (b3.mono C.out.size))
        have HN := jd (show ∀ q, q < k + 1 + 1 → entsAt l q = true from fun q hq => by
         rcases Nat.lt_or_ge q (k + 1) with h1 | h1
         · exact HA.out q h1
         · have : q = k + 1 := by omega
           subst this
           rw [HS.out]
           rw [P1.out, HCA.out, decide_eq_true (show y1 ≤ x1 by omega)]; simp)
        go_wp2
        go_roundw
        case rel => exact ⟨k + 1 + 1, by omega, by go_num, HN.out, CC.out⟩
        case measure => simp [intOf]; omega
   · have HD := jd (show entsB l = true from entsB_end (by have := HL.out; omega) fun q hq => hall q (by have := HL.out; omega))
     have CC := jd c
     clear hall hel c
     go_wp2
     go_ret
     exact ⟨ret_bool HD.out.symm, CC.out⟩
end Go.Proofs.YthjjdelpdiipdaaGreatDoor

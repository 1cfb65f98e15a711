/- Parts of my texts: EntI5 BookI3. -/
import Derived.Test.YthjjdelpdiipdaaGreatDoorMX17
import Derived.Test.YthjjdelpdiipdaaGreatDoorMX18
namespace Go.Proofs.YthjjdelpdiipdaaGreatDoor
set_option maxRecDepth 100000
set_option linter.unusedVariables false
open Go.RowKit
set_option maxHeartbeats 12800000 in
theorem iEntries_any (A : Option Addr) (n cc B : Nat) (l : List EntM) (w : World) (h : Rd w B [entD l] [.slice A n cc]) (hB : B ≤ w.heap.size) (hs : entSz l ≤ 1048577) :
    Calls Tryz.prog 118 #[.slice A n cc] w fun e w' => e = .returned (.bool (entsB l)) ∧ Below w.heap.size w w' := by
 obtain ⟨_, _, _, e, hl, _, _, hel⟩ := h.ents
 injection e with e1 e2 e3
 subst e1 e2 e3
 have HL := jd hl
 have hn : n ≤ 1048577 := by unfold entSz at hs; omega
 clear h hl hs
 by_cases h16 : 2000 < n
 case pos =>
  have HD := jd (entsB_long (l := l) (by have := HL.out; omega))
  clear hel
  go_enter Tryz.func118, Tryz.ntmps118
  go_wp2
  go_ret
  exact ⟨ret_bool HD.out.symm, Below.refl _ _⟩
 case neg =>
  go_enter Tryz.func118, Tryz.ntmps118
  go_wp2
  go_loopw [10] (fun i wr => ∃ j : Nat, j ≤ n ∧ i = .int .i64 (j : Int) ∧ (∀ q, q < j → entsAt l q = true) ∧ Below w.heap.size w wr) (fun i _ => n - (intOf i).toNat)
  case atStart => exact ⟨0, Nat.zero_le _, rfl, fun q hq => absurd hq (by omega), Below.refl _ _⟩
  case round =>
   obtain ⟨j, hj, rfl, hall, c⟩ := hrel
   by_cases hlt : j < n
   · obtain ⟨b, off, rfl, hb, hc⟩ := hel (by omega)
     have hjl : j < l.length := by have := HL.out; omega
     obtain ⟨hc0, hc1, hc2, hc3, hc4, hc5, hc6, hc7, hc8⟩ := hc j hjl
     have cs0 := cu c hc0 (show b < _ by omega)
     have cs1 := cu c hc1 (show b < _ by omega)
     have cs2 := cu c hc2 (show b < _ by omega)
     have cs3 := cu c hc3 (show b < _ by omega)
     have cs4 := cu c hc4 (show b < _ by omega)
     have cs5 := cu c hc5 (show b < _ by omega)
     have cs6 := cu c hc6 (show b < _ by omega)
     have cs7 := cu c hc7 (show b < _ by omega)
     have cs8 := cu c hc8 (show b < _ by omega)
     obtain ⟨x0, hx0⟩ : ∃ q, q = l[j].idx := ⟨_, rfl⟩
     rw [← hx0] at cs0
     obtain ⟨x1, hx1⟩ : ∃ q, q = l[j].tm := ⟨_, rfl⟩
     rw [← hx1] at cs1
     obtain ⟨x2, hx2⟩ : ∃ q, q = l[j].cl := ⟨_, rfl⟩
     rw [← hx2] at cs2
     obtain ⟨x3, hx3⟩ : ∃ q, q = l[j].sq := ⟨_, rfl⟩
     rw [← hx3] at cs3
     obtain ⟨x4, hx4⟩ : ∃ q, q = l[j].kd := ⟨_, rfl⟩
     rw [← hx4] at cs4
     obtain ⟨x5, hx5⟩ : ∃ q, q = l[j].oa := ⟨_, rfl⟩
     rw [← hx5] at cs5
     obtain ⟨x6, hx6⟩ : ∃ q, q = l[j].ob := ⟨_, rfl⟩
     rw [← hx6] at cs6
     obtain ⟨x7, hx7⟩ : ∃ q, q = l[j].oc := ⟨_, rfl⟩
     rw [← hx7] at cs7
     obtain ⟨x8, hx8⟩ : ∃ q, q = l[j].od := ⟨_, rfl⟩
     rw [← hx8] at cs8
     have hmk : l[j] = ⟨x0, x1, x2, x3, x4, x5, x6, x7, x8⟩ := by rw [hx0, hx1, hx2, hx3, hx4, hx5, hx6, hx7, hx8]
     have HS := jd (show entsAt l j = (entB ⟨x0, x1, x2, x3, x4, x5, x6, x7, x8⟩ && nextAt l j) by rw [entsAt_eq hjl, hmk])
     have HA := jd hall
     have HJ := jd hjl
     have HX0 := jd hx0
     have HX1 := jd hx1
     have S := Sep.nil wr w.heap.size
     replace S := S.boxAt c.size (wr.heap.size) rfl #[.int .i64 x0, .int .i64 x1, .int .i64 x2, .int .i64 x3, .int .i64 x4, .int .i64 x5, .int .i64 x6, .int .i64 x7, .int .i64 x8] 98
     have c1 := c.alloc c.size (.cells #[.int .i64 x0, .int .i64 x1, .int .i64 x2, .int .i64 x3, .int .i64 x4, .int .i64 x5, .int .i64 x6, .int .i64 x7, .int .i64 x8] 98)
     have f0 := lk S 0 0 rfl rfl
     have f1 := lk S 0 1 rfl rfl
     have f2 := lk S 0 2 rfl rfl
     have f3 := lk S 0 3 rfl rfl
     have f4 := lk S 0 4 rfl rfl
     have f5 := lk S 0 5 rfl rfl
     have f6 := lk S 0 6 rfl rfl
     have f7 := lk S 0 7 rfl rfl
     have f8 := lk S 0 8 rfl rfl
     have C := jd c1
     clear S hmk hx0 hx1 hx2 hx3 hx4 hx5 hx6 hx7 hx8 hc0 hc1 hc2 hc3 hc4 hc5 hc6 hc7 hc8
     cases p1 : entB ⟨x0, x1, x2, x3, x4, x5, x6, x7, x8⟩
     case false =>
      have P1 := jd p1
      go_wp2_with fail
      generalize wr.alloc (.cells #[.int .i64 x0, .int .i64 x1, .int .i64 x2, .int .i64 x3, .int .i64 x4, .int .i64 x5, .int .i64 x6, .int .i64 x7, .int .i64 x8] 98) = w1 at *
      clear hall c c1 hc hel cs0 cs1 cs2 cs3 cs4 cs5 cs6 cs7 cs8
      refine wp_region_cls (fun v => v.cell? ⟨wr.heap.size, 0, none⟩ = some (.int .i64 x0) ∧ v.cell? ⟨wr.heap.size, 1, none⟩ = some (.int .i64 x1) ∧ v.cell? ⟨wr.heap.size, 2, none⟩ = some (.int .i64 x2) ∧ v.cell? ⟨wr.heap.size, 3, none⟩ = some (.int .i64 x3) ∧ v.cell? ⟨wr.heap.size, 4, none⟩ = some (.int .i64 x4) ∧ v.cell? ⟨wr.heap.size, 5, none⟩ = some (.int .i64 x5) ∧ v.cell? ⟨wr.heap.size, 6, none⟩ = some (.int .i64 x6) ∧ v.cell? ⟨wr.heap.size, 7, none⟩ = some (.int .i64 x7) ∧ v.cell? ⟨wr.heap.size, 8, none⟩ = some (.int .i64 x8)) (by kernel_rfl) (by kernel_rfl) (fun v hv => ⟨cq hv f0, cq hv f1, cq hv f2, cq hv f3, cq hv f4, cq hv f5, cq hv f6, cq hv f7, cq hv f8⟩) ?_
      intro CL HF HC
      repeat
       (first
          | go_big_quiet_skip
          | (go_big_quiet_want
             go_big_quiet_op
             first
              | go_big_quiet_on
              | (apply Exists.intro
                 refine ⟨fun v hv => ?_, ?_⟩
                 · obtain ⟨a0, a1, a2, a3, a4, a5, a6, a7, a8⟩ := HF v hv
                   first
                    | (go_at_call 156; exact Calls.cls HC hv (iEntryOk_any x0 x1 x2 x3 x4 x5 x6 x7 x8 v) (congrArg Value.bool p1))
                    | exact rfl
                    | (go_simp; exact rfl)
                    | (go_simp; exact ⟨rfl, hv⟩)
                 go_big_quiet_on)))
      refine wpQuiet_nil ?_
      intro w3 b3
      have CC := jd (C.out.trans (b3.mono C.out.size))
      go_wp2
      go_ret
      exact ⟨ret_bool (entsB_step HJ.out (by rw [HS.out]; rw [P1.out]; rfl)).symm, CC.out⟩
     case true =>
     have P1 := jd p1
     by_cases hj0 : j = 0
     case pos =>
      subst hj0
      have zz : decide ((0 : Int) > 0) = false := rfl
      have cz0 := cs0
      have cz1 := cs1
      have cz2 := cs2
      have cz3 := cs3
      have cz4 := cs4
      have cz5 := cs5
      have cz6 := cs6
      have cz7 := cs7
      have cz8 := cs8
      simp only [Nat.zero_mul, Nat.add_zero] at cs0 cs1 cs2 cs3 cs4 cs5 cs6 cs7 cs8
      clear cz0 cz1 cz2 cz3 cz4 cz5 cz6 cz7 cz8
      go_wp2_with fail
      generalize wr.alloc (.cells #[.int .i64 x0, .int .i64 x1, .int .i64 x2, .int .i64 x3, .int .i64 x4, .int .i64 x5, .int .i64 x6, .int .i64 x7, .int .i64 x8] 98) = w1 at *
      clear hall c c1 hc hel cs0 cs1 cs2 cs3 cs4 cs5 cs6 cs7 cs8
      refine wp_region_cls (fun v => v.cell? ⟨wr.heap.size, 0, none⟩ = some (.int .i64 x0) ∧ v.cell? ⟨wr.heap.size, 1, none⟩ = some (.int .i64 x1) ∧ v.cell? ⟨wr.heap.size, 2, none⟩ = some (.int .i64 x2) ∧ v.cell? ⟨wr.heap.size, 3, none⟩ = some (.int .i64 x3) ∧ v.cell? ⟨wr.heap.size, 4, none⟩ = some (.int .i64 x4) ∧ v.cell? ⟨wr.heap.size, 5, none⟩ = some (.int .i64 x5) ∧ v.cell? ⟨wr.heap.size, 6, none⟩ = some (.int .i64 x6) ∧ v.cell? ⟨wr.heap.size, 7, none⟩ = some (.int .i64 x7) ∧ v.cell? ⟨wr.heap.size, 8, none⟩ = some (.int .i64 x8)) (by kernel_rfl) (by kernel_rfl) (fun v hv => ⟨cq hv f0, cq hv f1, cq hv f2, cq hv f3, cq hv f4, cq hv f5, cq hv f6, cq hv f7, cq hv f8⟩) ?_
      intro CL HF HC
      repeat
       (first
          | go_big_quiet_skip
          | (go_big_quiet_want
             go_big_quiet_op
             first
              | go_big_quiet_on
              | (apply Exists.intro
                 refine ⟨fun v hv => ?_, ?_⟩
                 · obtain ⟨a0, a1, a2, a3, a4, a5, a6, a7, a8⟩ := HF v hv
                   first
                    | (go_at_call 156; exact Calls.cls HC hv (iEntryOk_any x0 x1 x2 x3 x4 x5 x6 x7 x8 v) (congrArg Value.bool p1))
                    | exact rfl
                    | (go_simp; exact rfl)
                    | (go_simp; exact ⟨rfl, hv⟩)
                 go_big_quiet_on)))
      refine wpQuiet_nil ?_
      intro w3 b3
      have CC := jd (C.out.trans (b3.mono C.out.size))
      have HN := jd (show ∀ q, q < 0 + 1 → entsAt l q = true from fun q hq => by
       rcases Nat.lt_or_ge q (0) with h1 | h1
       · exact HA.out q h1
       · have : q = 0 := by omega
         subst this
         rw [HS.out]
         rw [P1.out]; rfl)
      go_wp2
      go_roundw
      case rel => exact ⟨0 + 1, by omega, by go_num, HN.out, CC.out⟩
      case measure => simp [intOf]; omega
     case neg =>
      obtain ⟨k, rfl⟩ : ∃ k, j = k + 1 := ⟨j - 1, by omega⟩
      have hkl : k < l.length := by omega
      obtain ⟨hd0, hd1, hd2, hd3, hd4, hd5, hd6, hd7, hd8⟩ := hc k hkl
      have ct0 := (c1.cell (p := ⟨b, off + k * 9, none⟩) (show b < _ by omega)).trans hd0
      obtain ⟨y0, hy0⟩ : ∃ q, q = l[k].idx := ⟨_, rfl⟩
      rw [← hy0] at ct0
      have ct1 := (c1.cell (p := ⟨b, off + k * 9 + 1, none⟩) (show b < _ by omega)).trans hd1
      obtain ⟨y1, hy1⟩ : ∃ q, q = l[k].tm := ⟨_, rfl⟩
      rw [← hy1] at ct1
      have ct2 := (c1.cell (p := ⟨b, off + k * 9 + 2, none⟩) (show b < _ by omega)).trans hd2
      obtain ⟨y2, hy2⟩ : ∃ q, q = l[k].cl := ⟨_, rfl⟩
      rw [← hy2] at ct2
      have ct3 := (c1.cell (p := ⟨b, off + k * 9 + 3, none⟩) (show b < _ by omega)).trans hd3
      obtain ⟨y3, hy3⟩ : ∃ q, q = l[k].sq := ⟨_, rfl⟩
      rw [← hy3] at ct3
      have ct4 := (c1.cell (p := ⟨b, off + k * 9 + 4, none⟩) (show b < _ by omega)).trans hd4
      obtain ⟨y4, hy4⟩ : ∃ q, q = l[k].kd := ⟨_, rfl⟩
      rw [← hy4] at ct4
      have ct5 := (c1.cell (p := ⟨b, off + k * 9 + 5, none⟩) (show b < _ by omega)).trans hd5
      obtain ⟨y5, hy5⟩ : ∃ q, q = l[k].oa := ⟨_, rfl⟩
      rw [← hy5] at ct5
      have ct6 := (c1.cell (p := ⟨b, off + k * 9 + 6, none⟩) (show b < _ by omega)).trans hd6
      obtain ⟨y6, hy6⟩ : ∃ q, q = l[k].ob := ⟨_, rfl⟩
      rw [← hy6] at ct6
      have ct7 := (c1.cell (p := ⟨b, off + k * 9 + 7, none⟩) (show b < _ by omega)).trans hd7
      obtain ⟨y7, hy7⟩ : ∃ q, q = l[k].oc := ⟨_, rfl⟩
      rw [← hy7] at ct7
      have ct8 := (c1.cell (p := ⟨b, off + k * 9 + 8, none⟩) (show b < _ by omega)).trans hd8
      obtain ⟨y8, hy8⟩ : ∃ q, q = l[k].od := ⟨_, rfl⟩
      rw [← hy8] at ct8
      have HY := jd (show 0 ≤ y0 ∧ y0 ≤ 1000000 by
       have h9 := hall k (by omega)
       rw [entsAt_eq hkl, Bool.and_eq_true] at h9
       rw [hy0]
       have := ((entB_iff _).1 h9.1).1
       omega)
      have HCA := jd (show nextAt l (k + 1) = (decide (x0 = y0 + 1) && decide (y1 ≤ x1)) by rw [nextAt_succ HJ.out, HX0.out, HX1.out, hy0, hy1])
      have k0' : (0 : Int) ≤ (k : Int) := by omega
      have k1' : (k : Int) < (n : Int) := by omega
      have ep : IntKind.i64.wrap (k : Int) = (k : Int) := by rw [IntKind.wrap_i64]; omega
      have zz : decide ((k : Int) + 1 > 0) = true := decide_eq_true (by omega)
      have zy : decide (0 < (k : Int) + 1) = true := decide_eq_true (by omega)
      clear hd0 hd1 hd2 hd3 hd4 hd5 hd6 hd7 hd8 hy0 hy1 hy2 hy3 hy4 hy5 hy6 hy7 hy8
      go_wp2_with fail
      generalize wr.alloc (.cells #[.int .i64 x0, .int .i64 x1, .int .i64 x2, .int .i64 x3, .int .i64 x4, .int .i64 x5, .int .i64 x6, .int .i64 x7, .int .i64 x8] 98) = w1 at *
      clear hall c c1 hc hel hj0 cs0 cs1 cs2 cs3 cs4 cs5 cs6 cs7 cs8
      cases p2 : (decide (x0 = y0 + 1) && decide (y1 ≤ x1))
      case false =>
       have P2 := jd p2
       refine wp_region_cls (fun v => v.cell? ⟨wr.heap.size, 0, none⟩ = some (.int .i64 x0) ∧ v.cell? ⟨wr.heap.size, 1, none⟩ = some (.int .i64 x1) ∧ v.cell? ⟨wr.heap.size, 2, none⟩ = some (.int .i64 x2) ∧ v.cell? ⟨wr.heap.size, 3, none⟩ = some (.int .i64 x3) ∧ v.cell? ⟨wr.heap.size, 4, none⟩ = some (.int .i64 x4) ∧ v.cell? ⟨wr.heap.size, 5, none⟩ = some (.int .i64 x5) ∧ v.cell? ⟨wr.heap.size, 6, none⟩ = some (.int .i64 x6) ∧ v.cell? ⟨wr.heap.size, 7, none⟩ = some (.int .i64 x7) ∧ v.cell? ⟨wr.heap.size, 8, none⟩ = some (.int .i64 x8) ∧ v.cell? ⟨b, off + k * 9, none⟩ = some (.int .i64 y0) ∧ v.cell? ⟨b, off + k * 9 + 1, none⟩ = some (.int .i64 y1) ∧ v.cell? ⟨b, off + k * 9 + 2, none⟩ = some (.int .i64 y2) ∧ v.cell? ⟨b, off + k * 9 + 3, none⟩ = some (.int .i64 y3) ∧ v.cell? ⟨b, off + k * 9 + 4, none⟩ = some (.int .i64 y4) ∧ v.cell? ⟨b, off + k * 9 + 5, none⟩ = some (.int .i64 y5) ∧ v.cell? ⟨b, off + k * 9 + 6, none⟩ = some (.int .i64 y6) ∧ v.cell? ⟨b, off + k * 9 + 7, none⟩ = some (.int .i64 y7) ∧ v.cell? ⟨b, off + k * 9 + 8, none⟩ = some (.int .i64 y8)) (by kernel_rfl) (by kernel_rfl) (fun v hv => ⟨cq hv f0, cq hv f1, cq hv f2, cq hv f3, cq hv f4, cq hv f5, cq hv f6, cq hv f7, cq hv f8, cq hv ct0, cq hv ct1, cq hv ct2, cq hv ct3, cq hv ct4, cq hv ct5, cq hv ct6, cq hv ct7, cq hv ct8⟩) ?_
       intro CL HF HC
       repeat
        (first
           | go_big_quiet_skip
           | (go_big_quiet_want
              go_big_quiet_op
              first
               | go_big_quiet_on
               | (apply Exists.intro
                  refine ⟨fun v hv => ?_, ?_⟩
                  · obtain ⟨a0, a1, a2, a3, a4, a5, a6, a7, a8, a9, a10, a11, a12, a13, a14, a15, a16, a17⟩ := HF v hv
                    first
                     | (go_at_call 156; exact Calls.cls HC hv (iEntryOk_any x0 x1 x2 x3 x4 x5 x6 x7 x8 v) (congrArg Value.bool p1))
                     | (go_at_call 119; exact Calls.cls HC hv (iFollows_any x0 x1 x2 x3 x4 x5 x6 x7 x8 y0 y1 y2 y3 y4 y5 y6 y7 y8 HY.out v) (congrArg Value.bool p2))
                     | exact rfl
                     | (go_simp; exact rfl)
                     | (go_simp; exact ⟨rfl, hv⟩)
                  go_big_quiet_on)))
       refine wpQuiet_nil ?_
       intro w3 b3
       have CC := jd (C.out.trans (b3.mono C.out.size))
       go_wp2
       go_ret
       exact ⟨ret_bool (entsB_step HJ.out (by rw [HS.out]; rw [P1.out, HCA.out, P2.out]; rfl)).symm, CC.out⟩
      case true =>
       have P2 := jd p2
       refine wp_region_cls (fun v => v.cell? ⟨wr.heap.size, 0, none⟩ = some (.int .i64 x0) ∧ v.cell? ⟨wr.heap.size, 1, none⟩ = some (.int .i64 x1) ∧ v.cell? ⟨wr.heap.size, 2, none⟩ = some (.int .i64 x2) ∧ v.cell? ⟨wr.heap.size, 3, none⟩ = some (.int .i64 x3) ∧ v.cell? ⟨wr.heap.size, 4, none⟩ = some (.int .i64 x4) ∧ v.cell? ⟨wr.heap.size, 5, none⟩ = some (.int .i64 x5) ∧ v.cell? ⟨wr.heap.size, 6, none⟩ = some (.int .i64 x6) ∧ v.cell? ⟨wr.heap.size, 7, none⟩ = some (.int .i64 x7) ∧ v.cell? ⟨wr.heap.size, 8, none⟩ = some (.int .i64 x8) ∧ v.cell? ⟨b, off + k * 9, none⟩ = some (.int .i64 y0) ∧ v.cell? ⟨b, off + k * 9 + 1, none⟩ = some (.int .i64 y1) ∧ v.cell? ⟨b, off + k * 9 + 2, none⟩ = some (.int .i64 y2) ∧ v.cell? ⟨b, off + k * 9 + 3, none⟩ = some (.int .i64 y3) ∧ v.cell? ⟨b, off + k * 9 + 4, none⟩ = some (.int .i64 y4) ∧ v.cell? ⟨b, off + k * 9 + 5, none⟩ = some (.int .i64 y5) ∧ v.cell? ⟨b, off + k * 9 + 6, none⟩ = some (.int .i64 y6) ∧ v.cell? ⟨b, off + k * 9 + 7, none⟩ = some (.int .i64 y7) ∧ v.cell? ⟨b, off + k * 9 + 8, none⟩ = some (.int .i64 y8)) (by kernel_rfl) (by kernel_rfl) (fun v hv => ⟨cq hv f0, cq hv f1, cq hv f2, cq hv f3, cq hv f4, cq hv f5, cq hv f6, cq hv f7, cq hv f8, cq hv ct0, cq hv ct1, cq hv ct2, cq hv ct3, cq hv ct4, cq hv ct5, cq hv ct6, cq hv ct7, cq hv ct8⟩) ?_
       intro CL HF HC
       repeat
        (first
           | go_big_quiet_skip
           | (go_big_quiet_want
              go_big_quiet_op
              first
               | go_big_quiet_on
               | (apply Exists.intro
                  refine ⟨fun v hv => ?_, ?_⟩
                  · obtain ⟨a0, a1, a2, a3, a4, a5, a6, a7, a8, a9, a10, a11, a12, a13, a14, a15, a16, a17⟩ := HF v hv
                    first
                     | (go_at_call 156; exact Calls.cls HC hv (iEntryOk_any x0 x1 x2 x3 x4 x5 x6 x7 x8 v) (congrArg Value.bool p1))
                     | (go_at_call 119; exact Calls.cls HC hv (iFollows_any x0 x1 x2 x3 x4 x5 x6 x7 x8 y0 y1 y2 y3 y4 y5 y6 y7 y8 HY.out v) (congrArg Value.bool p2))
                     | exact rfl
                     | (go_simp; exact rfl)
                     | (go_simp; exact ⟨rfl, hv⟩)
                  go_big_quiet_on)))
       refine wpQuiet_nil ?_
       intro w3 b3
       have CC := jd (C.out.trans (b3.mono C.out.size))
       have HN := jd (show ∀ q, q < (k + 1) + 1 → entsAt l q = true from fun q hq => by
        rcases Nat.lt_or_ge q ((k + 1)) with h1 | h1
        · exact HA.out q h1
        · have : q = (k + 1) := by omega
          subst this
          rw [HS.out]
          rw [P1.out, HCA.out, P2.out]; rfl)
       go_wp2
       go_roundw
       case rel => exact ⟨(k + 1) + 1, by omega, by go_num, HN.out, CC.out⟩
       case measure => simp [intOf]; omega
   · have HD := jd (show entsB l = true from entsB_end (by have := HL.out; omega) fun q hq => hall q (by have := HL.out; omega))
     have CC := jd c
     clear hall hel c
     go_wp2
     go_ret
     exact ⟨ret_bool HD.out.symm, CC.out⟩
theorem bookB_mk' (x0 x1 : Int) (l : List EntM) : bookB ⟨x0, x1, l⟩ = true ↔ (0 ≤ x0 ∧ x0 ≤ 2000) ∧ (0 ≤ x1 ∧ x1 ≤ 1000000) ∧ (x0 ≠ 0 ∨ x1 = 0) ∧ l.length ≤ 20 ∧ entsB l = true ∧ headB ⟨x0, x1, l⟩ = true := bookB_iff _
set_option maxHeartbeats 3200000 in
theorem iBaseOf_any (x0 x1 : Int) (A : Option Addr) (n cc : Nat) (w : World) :
    Calls Tryz.prog 120 #[.agg #[.int .i64 x0, .int .i64 x1, .slice A n cc]] w fun e w' => e = .returned (.agg #[.int .i64 x0, .int .i64 x1, .int .i64 0, .int .i64 0, .int .i64 0, .int .i64 0, .int .i64 0, .int .i64 0, .int .i64 0]) ∧ Below w.heap.size w w' := by
 have C := jd (((Below.refl w.heap.size w).alloc (Nat.le_refl _) (.cells #[.int .i64 x0, .int .i64 x1, .slice A n cc] 49)).alloc (by simp) (.cells #[.int .i64 x0, .int .i64 x1, .int .i64 0, .int .i64 0, .int .i64 0, .int .i64 0, .int .i64 0, .int .i64 0, .int .i64 0] 98))
 go_enter Tryz.func120, Tryz.ntmps120
 go_wp2
 refine bodyPost_ret (v := .agg #[.int .i64 x0, .int .i64 x1, .int .i64 0, .int .i64 0, .int .i64 0, .int .i64 0, .int .i64 0, .int .i64 0, .int .i64 0]) (by simp [results, Tryz.results120, go_sem]) rfl ⟨rfl, ?_⟩
 exact C.out
set_option maxHeartbeats 6400000 in
theorem iEndOf_any (x0 x1 : Int) (A : Option Addr) (n cc B : Nat) (l : List EntM) (w : World) (h : Rd w B [entD l] [.slice A n cc]) (hB : B ≤ w.heap.size) (hs : entSz l ≤ 1048577) :
    Calls Tryz.prog 125 #[.agg #[.int .i64 x0, .int .i64 x1, .slice A n cc]] w fun e w' => e = .returned (.agg #[.int .i64 (endM ⟨x0, x1, l⟩).idx, .int .i64 (endM ⟨x0, x1, l⟩).tm, .int .i64 (endM ⟨x0, x1, l⟩).cl, .int .i64 (endM ⟨x0, x1, l⟩).sq, .int .i64 (endM ⟨x0, x1, l⟩).kd, .int .i64 (endM ⟨x0, x1, l⟩).oa, .int .i64 (endM ⟨x0, x1, l⟩).ob, .int .i64 (endM ⟨x0, x1, l⟩).oc, .int .i64 (endM ⟨x0, x1, l⟩).od]) ∧ Below w.heap.size w w' := by
 have HH := jd h
 obtain ⟨_, _, _, e, hl, _, hcm, hel⟩ := h.ents
 injection e with e1 e2 e3
 subst e1 e2 e3
 have hn : n ≤ 1048577 := by unfold entSz at hs; omega
 have HL := jd hl
 by_cases h0 : n = 0
 case pos =>
  subst h0
  have HV := jd (show endM ⟨x0, x1, l⟩ = ⟨x0, x1, 0, 0, 0, 0, 0, 0, 0⟩ by unfold endM; rw [if_pos (show l.length = 0 from hl)])
  clear hel hcm hl h
  have S := Sep.nil w w.heap.size
  have c := Below.refl w.heap.size w
  replace S := S.boxAt c.size (w.heap.size) rfl #[.int .i64 x0, .int .i64 x1, .slice A 0 cc] 49
  replace c := al c S
  replace S := S.boxAt c.size (w.heap.size + 1) (by simp) #[.int .i64 0, .int .i64 0, .int .i64 0, .int .i64 0, .int .i64 0, .int .i64 0, .int .i64 0, .int .i64 0, .int .i64 0] 98
  replace c := al c S
  go_enter Tryz.func125, Tryz.ntmps125
  have f0 := lk S 1 0 rfl rfl
  have f1 := lk S 1 1 rfl rfl
  have f2 := lk S 1 2 rfl rfl
  go_wp2_with fail
  generalize (w.alloc (.cells #[.int .i64 x0, .int .i64 x1, .slice A 0 cc] 49)).alloc (.cells #[.int .i64 0, .int .i64 0, .int .i64 0, .int .i64 0, .int .i64 0, .int .i64 0, .int .i64 0, .int .i64 0, .int .i64 0] 98) = w1 at *
  refine (iBaseOf_any x0 x1 A 0 cc _).mono ?_
  rintro e w2 ⟨rfl, b2⟩
  replace c := c.trans (b2.mono c.size)
  replace S := S.keep b2
  clear b2 f0 f1 f2
  have f3 := lk S 0 0 rfl rfl
  have f4 := (S.at_ 0 rfl).free 0
  have f5 := lk S 0 1 rfl rfl
  have f6 := (S.at_ 0 rfl).free 1
  have f7 := lk S 0 2 rfl rfl
  have f8 := (S.at_ 0 rfl).free 2
  have f9 := lk S 0 3 rfl rfl
  have f10 := (S.at_ 0 rfl).free 3
  have f11 := lk S 0 4 rfl rfl
  have f12 := (S.at_ 0 rfl).free 4
  have f13 := lk S 0 5 rfl rfl
  have f14 := (S.at_ 0 rfl).free 5
  have f15 := lk S 0 6 rfl rfl
  have f16 := (S.at_ 0 rfl).free 6
  have f17 := lk S 0 7 rfl rfl
  have f18 := (S.at_ 0 rfl).free 7
  have f19 := lk S 0 8 rfl rfl
  have f20 := (S.at_ 0 rfl).free 8
  replace S := S.put 0 rfl 0 (.int .i64 x0)
  replace c := st c S (by omega)
  replace S := S.put 0 rfl 1 (.int .i64 x1)
  replace c := st c S (by omega)
  replace S := S.put 0 rfl 2 (.int .i64 0)
  replace c := st c S (by omega)
  replace S := S.put 0 rfl 3 (.int .i64 0)
  replace c := st c S (by omega)
  replace S := S.put 0 rfl 4 (.int .i64 0)
  replace c := st c S (by omega)
  replace S := S.put 0 rfl 5 (.int .i64 0)
  replace c := st c S (by omega)
  replace S := S.put 0 rfl 6 (.int .i64 0)
  replace c := st c S (by omega)
  replace S := S.put 0 rfl 7 (.int .i64 0)
  replace c := st c S (by omega)
  replace S := S.put 0 rfl 8 (.int .i64 0)
  replace c := st c S (by omega)
  have r0 := jd ((S.at_ 0 rfl).cell 0)
  have r1 := jd ((S.at_ 0 rfl).cell 1)
  have r2 := jd ((S.at_ 0 rfl).cell 2)
  have r3 := jd ((S.at_ 0 rfl).cell 3)
  have r4 := jd ((S.at_ 0 rfl).cell 4)
  have r5 := jd ((S.at_ 0 rfl).cell 5)
  have r6 := jd ((S.at_ 0 rfl).cell 6)
  have r7 := jd ((S.at_ 0 rfl).cell 7)
  have r8 := jd ((S.at_ 0 rfl).cell 8)
  have CC := jd c
  clear S c
  go_wp2
  exact bodyPost_ret (v := .agg #[.int .i64 x0, .int .i64 x1, .int .i64 0, .int .i64 0, .int .i64 0, .int .i64 0, .int .i64 0, .int .i64 0, .int .i64 0]) (by simp [results, Tryz.results125, go_sem, r0.out, r1.out, r2.out, r3.out, r4.out, r5.out, r6.out, r7.out, r8.out]) rfl ⟨by rw [HV.out], CC.out⟩
 case neg =>
  obtain ⟨b, off, rfl, hb, hc⟩ := hel (by omega)
  obtain ⟨k, hk⟩ : ∃ k, n = k + 1 := ⟨n - 1, by omega⟩
  have hkl : k < l.length := by omega
  obtain ⟨hq0, hq1, hq2, hq3, hq4, hq5, hq6, hq7, hq8⟩ := hc k hkl
  obtain ⟨z0, hz0⟩ : ∃ y, y = l[k].idx := ⟨_, rfl⟩
  rw [← hz0] at hq0
  obtain ⟨z1, hz1⟩ : ∃ y, y = l[k].tm := ⟨_, rfl⟩
  rw [← hz1] at hq1
  obtain ⟨z2, hz2⟩ : ∃ y, y = l[k].cl := ⟨_, rfl⟩
  rw [← hz2] at hq2
  obtain ⟨z3, hz3⟩ : ∃ y, y = l[k].sq := ⟨_, rfl⟩
  rw [← hz3] at hq3
  obtain ⟨z4, hz4⟩ : ∃ y, y = l[k].kd := ⟨_, rfl⟩
  rw [← hz4] at hq4
  obtain ⟨z5, hz5⟩ : ∃ y, y = l[k].oa := ⟨_, rfl⟩
  rw [← hz5] at hq5
  obtain ⟨z6, hz6⟩ : ∃ y, y = l[k].ob := ⟨_, rfl⟩
  rw [← hz6] at hq6
  obtain ⟨z7, hz7⟩ : ∃ y, y = l[k].oc := ⟨_, rfl⟩
  rw [← hz7] at hq7
  obtain ⟨z8, hz8⟩ : ∃ y, y = l[k].od := ⟨_, rfl⟩
  rw [← hz8] at hq8
  have hmk : l[k] = ⟨z0, z1, z2, z3, z4, z5, z6, z7, z8⟩ := by rw [hz0, hz1, hz2, hz3, hz4, hz5, hz6, hz7, hz8]
  have HV := jd (show endM ⟨x0, x1, l⟩ = ⟨z0, z1, z2, z3, z4, z5, z6, z7, z8⟩ by unfold endM; rw [if_neg (show ¬ l.length = 0 by omega), show (⟨x0, x1, l⟩ : BookM).ents.length - 1 = k by show l.length - 1 = k; omega, egetD hkl, hmk])
  have hw1 : IntKind.i64.wrap ((n : Int) - 1) = (k : Int) := by rw [IntKind.wrap_i64]; omega
  have hw2 : IntKind.i64.wrap (k : Int) = (k : Int) := by rw [IntKind.wrap_i64]; omega
  have e0 : decide ((n : Int) = 0) = false := decide_eq_false (by omega)
  have e1 : ((n : Int) == 0) = false := by simp; omega
  have hnz : ¬ n = 0 := h0
  have j0 : (0 : Int) ≤ (k : Int) := by omega
  have j1 : (k : Int) < (n : Int) := by omega
  clear h hel hc hcm hl h0 hkl hmk hk HL HH hz0 hz1 hz2 hz3 hz4 hz5 hz6 hz7 hz8
  have S := Sep.nil w w.heap.size
  have c := Below.refl w.heap.size w
  replace S := S.boxAt c.size (w.heap.size) rfl #[.int .i64 x0, .int .i64 x1, .slice (some ⟨b, off, none⟩) n cc] 49
  replace c := al c S
  replace S := S.boxAt c.size (w.heap.size + 1) (by simp) #[.int .i64 0, .int .i64 0, .int .i64 0, .int .i64 0, .int .i64 0, .int .i64 0, .int .i64 0, .int .i64 0, .int .i64 0] 98
  replace c := al c S
  go_enter Tryz.func125, Tryz.ntmps125
  have f0 := lk S 1 0 rfl rfl
  have f1 := lk S 1 1 rfl rfl
  have f2 := lk S 1 2 rfl rfl
  have k0 := cu c hq0 (show b < _ by omega)
  have k1 := cu c hq1 (show b < _ by omega)
  have k2 := cu c hq2 (show b < _ by omega)
  have k3 := cu c hq3 (show b < _ by omega)
  have k4 := cu c hq4 (show b < _ by omega)
  have k5 := cu c hq5 (show b < _ by omega)
  have k6 := cu c hq6 (show b < _ by omega)
  have k7 := cu c hq7 (show b < _ by omega)
  have k8 := cu c hq8 (show b < _ by omega)
  have C := jd (((Below.refl w.heap.size w).alloc (Nat.le_refl _) (.cells #[.int .i64 x0, .int .i64 x1, .slice (some ⟨b, off, none⟩) n cc] 49)).alloc (by simp) (.cells #[.int .i64 z0, .int .i64 z1, .int .i64 z2, .int .i64 z3, .int .i64 z4, .int .i64 z5, .int .i64 z6, .int .i64 z7, .int .i64 z8] 98))
  clear S c
  go_wp2
  refine bodyPost_ret (v := .agg #[.int .i64 z0, .int .i64 z1, .int .i64 z2, .int .i64 z3, .int .i64 z4, .int .i64 z5, .int .i64 z6, .int .i64 z7, .int .i64 z8]) (by simp [results, Tryz.results125, go_sem]) rfl ⟨by rw [HV.out], ?_⟩
  exact C.out
end Go.Proofs.YthjjdelpdiipdaaGreatDoor

/-
  Chapter 7: entries that follow one another, of the program (by program, wip/gen/genenti3.py).
-/
import Derived.Test.YtepnghjmpbfmcaaEntI3
import Derived.Test.YtepnghjmpbfmcaaCls
import Derived.RegionTactic
import Derived.BigQuiet
namespace Go.Proofs.Ytepnghjmpbfmcaa
set_option maxRecDepth 100000
open Go.RowKit

set_option maxHeartbeats 12800000 in
theorem iEntries_any (A : Option Addr) (n cc B : Nat) (l : List EntM) (w : World) (h : Rd w B [entD l] [.slice A n cc]) (hB : B ≤ w.heap.size) (hs : entSz l ≤ 1048577) :
    Calls Try.prog 64 #[.slice A n cc] w fun e w' => e = .returned (.bool (entsB l)) ∧ Below w.heap.size w w' := by
  obtain ⟨_, _, _, e, hl, _, _, hel⟩ := h.ents
  injection e with e1 e2 e3
  subst e1 e2 e3
  have HL := Lib.hid hl
  have hn : n ≤ 1048577 := by unfold entSz at hs; omega
  clear h hl hs
  by_cases h16 : 2000 < n
  case pos =>
    have HD := Lib.hid (entsB_long (l := l) (by have := HL.out; omega))
    clear hel
    go_enter Try.func64, Try.ntmps64
    go_wp2
    go_ret
    exact ⟨ret_bool HD.out.symm, Below.refl _ _⟩
  case neg =>
    go_enter Try.func64, Try.ntmps64
    go_wp2
    go_loopw [10] (fun i wr => ∃ j : Nat, j ≤ n ∧ i = .int .i64 (j : Int) ∧ (∀ q, q < j → entsAt l q = true) ∧ Below w.heap.size w wr) (fun i _ => n - (intOf i).toNat)
    case atStart => exact ⟨0, Nat.zero_le _, rfl, fun q hq => absurd hq (by omega), Below.refl _ _⟩
    case round =>
      obtain ⟨j, hj, rfl, hall, c⟩ := hrel
      by_cases hlt : j < n
      · obtain ⟨b, off, rfl, hb, hc⟩ := hel (by omega)
        have hjl : j < l.length := by have := HL.out; omega
        obtain ⟨hc0, hc1, hc2, hc3, hc4, hc5, hc6, hc7, hc8⟩ := hc j hjl
        have cs0 := (c.cell (p := ⟨b, off + j * 9, none⟩) (show b < _ by omega)).trans hc0
        have cs1 := (c.cell (p := ⟨b, off + j * 9 + 1, none⟩) (show b < _ by omega)).trans hc1
        have cs2 := (c.cell (p := ⟨b, off + j * 9 + 2, none⟩) (show b < _ by omega)).trans hc2
        have cs3 := (c.cell (p := ⟨b, off + j * 9 + 3, none⟩) (show b < _ by omega)).trans hc3
        have cs4 := (c.cell (p := ⟨b, off + j * 9 + 4, none⟩) (show b < _ by omega)).trans hc4
        have cs5 := (c.cell (p := ⟨b, off + j * 9 + 5, none⟩) (show b < _ by omega)).trans hc5
        have cs6 := (c.cell (p := ⟨b, off + j * 9 + 6, none⟩) (show b < _ by omega)).trans hc6
        have cs7 := (c.cell (p := ⟨b, off + j * 9 + 7, none⟩) (show b < _ by omega)).trans hc7
        have cs8 := (c.cell (p := ⟨b, off + j * 9 + 8, none⟩) (show b < _ by omega)).trans hc8
        obtain ⟨x0, hx0⟩ : ∃ q, q = l[j].idx := ⟨_, rfl⟩
        rw [← hx0] at cs0
        obtain ⟨x1, hx1⟩ : ∃ q, q = l[j].tm := ⟨_, rfl⟩
        rw [← hx1] at cs1
        obtain ⟨x2, hx2⟩ : ∃ q, q = l[j].cl := ⟨_, rfl⟩
        rw [← hx2] at cs2
        obtain ⟨x3, hx3⟩ : ∃ q, q = l[j].sq := ⟨_, rfl⟩
        rw [← hx3] at cs3
        obtain ⟨x4, hx4⟩ : ∃ q, q = l[j].kd := ⟨_, rfl⟩
        rw [← hx4] at cs4
        obtain ⟨x5, hx5⟩ : ∃ q, q = l[j].oa := ⟨_, rfl⟩
        rw [← hx5] at cs5
        obtain ⟨x6, hx6⟩ : ∃ q, q = l[j].ob := ⟨_, rfl⟩
        rw [← hx6] at cs6
        obtain ⟨x7, hx7⟩ : ∃ q, q = l[j].oc := ⟨_, rfl⟩
        rw [← hx7] at cs7
        obtain ⟨x8, hx8⟩ : ∃ q, q = l[j].od := ⟨_, rfl⟩
        rw [← hx8] at cs8
        have hmk : l[j] = ⟨x0, x1, x2, x3, x4, x5, x6, x7, x8⟩ := by rw [hx0, hx1, hx2, hx3, hx4, hx5, hx6, hx7, hx8]
        have HS := Lib.hid (show entsAt l j = (entB ⟨x0, x1, x2, x3, x4, x5, x6, x7, x8⟩ && nextAt l j) by rw [entsAt_eq hjl, hmk])
        have HA := Lib.hid hall
        have HJ := Lib.hid hjl
        have HX0 := Lib.hid hx0
        have HX1 := Lib.hid hx1
        have S := Sep.nil wr w.heap.size
        replace S := S.boxAt c.size (wr.heap.size) rfl #[.int .i64 x0, .int .i64 x1, .int .i64 x2, .int .i64 x3, .int .i64 x4, .int .i64 x5, .int .i64 x6, .int .i64 x7, .int .i64 x8] 83
        have c1 := c.alloc c.size (.cells #[.int .i64 x0, .int .i64 x1, .int .i64 x2, .int .i64 x3, .int .i64 x4, .int .i64 x5, .int .i64 x6, .int .i64 x7, .int .i64 x8] 83)
        have f0 : (wr.alloc (.cells #[.int .i64 x0, .int .i64 x1, .int .i64 x2, .int .i64 x3, .int .i64 x4, .int .i64 x5, .int .i64 x6, .int .i64 x7, .int .i64 x8] 83)).cell? ⟨wr.heap.size, 0, none⟩ = some (.int .i64 x0) := (S.at_ 0 rfl).cell 0
        have f1 : (wr.alloc (.cells #[.int .i64 x0, .int .i64 x1, .int .i64 x2, .int .i64 x3, .int .i64 x4, .int .i64 x5, .int .i64 x6, .int .i64 x7, .int .i64 x8] 83)).cell? ⟨wr.heap.size, 1, none⟩ = some (.int .i64 x1) := (S.at_ 0 rfl).cell 1
        have f2 : (wr.alloc (.cells #[.int .i64 x0, .int .i64 x1, .int .i64 x2, .int .i64 x3, .int .i64 x4, .int .i64 x5, .int .i64 x6, .int .i64 x7, .int .i64 x8] 83)).cell? ⟨wr.heap.size, 2, none⟩ = some (.int .i64 x2) := (S.at_ 0 rfl).cell 2
        have f3 : (wr.alloc (.cells #[.int .i64 x0, .int .i64 x1, .int .i64 x2, .int .i64 x3, .int .i64 x4, .int .i64 x5, .int .i64 x6, .int .i64 x7, .int .i64 x8] 83)).cell? ⟨wr.heap.size, 3, none⟩ = some (.int .i64 x3) := (S.at_ 0 rfl).cell 3
        have f4 : (wr.alloc (.cells #[.int .i64 x0, .int .i64 x1, .int .i64 x2, .int .i64 x3, .int .i64 x4, .int .i64 x5, .int .i64 x6, .int .i64 x7, .int .i64 x8] 83)).cell? ⟨wr.heap.size, 4, none⟩ = some (.int .i64 x4) := (S.at_ 0 rfl).cell 4
        have f5 : (wr.alloc (.cells #[.int .i64 x0, .int .i64 x1, .int .i64 x2, .int .i64 x3, .int .i64 x4, .int .i64 x5, .int .i64 x6, .int .i64 x7, .int .i64 x8] 83)).cell? ⟨wr.heap.size, 5, none⟩ = some (.int .i64 x5) := (S.at_ 0 rfl).cell 5
        have f6 : (wr.alloc (.cells #[.int .i64 x0, .int .i64 x1, .int .i64 x2, .int .i64 x3, .int .i64 x4, .int .i64 x5, .int .i64 x6, .int .i64 x7, .int .i64 x8] 83)).cell? ⟨wr.heap.size, 6, none⟩ = some (.int .i64 x6) := (S.at_ 0 rfl).cell 6
        have f7 : (wr.alloc (.cells #[.int .i64 x0, .int .i64 x1, .int .i64 x2, .int .i64 x3, .int .i64 x4, .int .i64 x5, .int .i64 x6, .int .i64 x7, .int .i64 x8] 83)).cell? ⟨wr.heap.size, 7, none⟩ = some (.int .i64 x7) := (S.at_ 0 rfl).cell 7
        have f8 : (wr.alloc (.cells #[.int .i64 x0, .int .i64 x1, .int .i64 x2, .int .i64 x3, .int .i64 x4, .int .i64 x5, .int .i64 x6, .int .i64 x7, .int .i64 x8] 83)).cell? ⟨wr.heap.size, 8, none⟩ = some (.int .i64 x8) := (S.at_ 0 rfl).cell 8
        have C := Lib.hid c1
        clear S hmk hx0 hx1 hx2 hx3 hx4 hx5 hx6 hx7 hx8 hc0 hc1 hc2 hc3 hc4 hc5 hc6 hc7 hc8
        cases p1 : entB ⟨x0, x1, x2, x3, x4, x5, x6, x7, x8⟩
        case false =>
          have P1 := Lib.hid p1
          go_wp2_with fail
          generalize wr.alloc (.cells #[.int .i64 x0, .int .i64 x1, .int .i64 x2, .int .i64 x3, .int .i64 x4, .int .i64 x5, .int .i64 x6, .int .i64 x7, .int .i64 x8] 83) = w1 at *
          clear hall c c1 hc hel cs0 cs1 cs2 cs3 cs4 cs5 cs6 cs7 cs8
          refine wp_region_cls (fun v => v.cell? ⟨wr.heap.size, 0, none⟩ = some (.int .i64 x0) ∧ v.cell? ⟨wr.heap.size, 1, none⟩ = some (.int .i64 x1) ∧ v.cell? ⟨wr.heap.size, 2, none⟩ = some (.int .i64 x2) ∧ v.cell? ⟨wr.heap.size, 3, none⟩ = some (.int .i64 x3) ∧ v.cell? ⟨wr.heap.size, 4, none⟩ = some (.int .i64 x4) ∧ v.cell? ⟨wr.heap.size, 5, none⟩ = some (.int .i64 x5) ∧ v.cell? ⟨wr.heap.size, 6, none⟩ = some (.int .i64 x6) ∧ v.cell? ⟨wr.heap.size, 7, none⟩ = some (.int .i64 x7) ∧ v.cell? ⟨wr.heap.size, 8, none⟩ = some (.int .i64 x8)) (by kernel_rfl) (by kernel_rfl) (fun v hv => ⟨(hv.cell (p := ⟨wr.heap.size, 0, none⟩) (lt_of_cell f0)).trans f0, (hv.cell (p := ⟨wr.heap.size, 1, none⟩) (lt_of_cell f1)).trans f1, (hv.cell (p := ⟨wr.heap.size, 2, none⟩) (lt_of_cell f2)).trans f2, (hv.cell (p := ⟨wr.heap.size, 3, none⟩) (lt_of_cell f3)).trans f3, (hv.cell (p := ⟨wr.heap.size, 4, none⟩) (lt_of_cell f4)).trans f4, (hv.cell (p := ⟨wr.heap.size, 5, none⟩) (lt_of_cell f5)).trans f5, (hv.cell (p := ⟨wr.heap.size, 6, none⟩) (lt_of_cell f6)).trans f6, (hv.cell (p := ⟨wr.heap.size, 7, none⟩) (lt_of_cell f7)).trans f7, (hv.cell (p := ⟨wr.heap.size, 8, none⟩) (lt_of_cell f8)).trans f8⟩) ?_
          intro CL HF HC
          repeat
            (first
               | go_big_quiet_skip
               | (go_big_quiet_want
                  go_big_quiet_op
                  first
                    | go_big_quiet_on
                    | (apply Exists.intro
                       refine ⟨fun v hv => ?_, ?_⟩
                       · obtain ⟨a0, a1, a2, a3, a4, a5, a6, a7, a8⟩ := HF v hv
                         first
                           | (go_at_call 70; exact Calls.cls HC hv (iEntryOk_any x0 x1 x2 x3 x4 x5 x6 x7 x8 v) (congrArg Value.bool p1))
                           | exact rfl
                           | (go_simp; exact rfl)
                           | (go_simp; exact ⟨rfl, hv⟩)
                       go_big_quiet_on)))
          refine wpQuiet_nil ?_
          intro w3 b3
          have CC := Lib.hid (C.out.trans (b3.mono C.out.size))
          go_wp2
          go_ret
          exact ⟨ret_bool (entsB_step HJ.out (by rw [HS.out]; rw [P1.out]; rfl)).symm, CC.out⟩
        case true =>
        have P1 := Lib.hid p1
        by_cases hj0 : j = 0
        case pos =>
          subst hj0
          have zz : decide ((0 : Int) > 0) = false := rfl
          have cz0 := cs0
          have cz1 := cs1
          have cz2 := cs2
          have cz3 := cs3
          have cz4 := cs4
          have cz5 := cs5
          have cz6 := cs6
          have cz7 := cs7
          have cz8 := cs8
          simp only [Nat.zero_mul, Nat.add_zero] at cs0 cs1 cs2 cs3 cs4 cs5 cs6 cs7 cs8
          clear cz0 cz1 cz2 cz3 cz4 cz5 cz6 cz7 cz8
          go_wp2_with fail
          generalize wr.alloc (.cells #[.int .i64 x0, .int .i64 x1, .int .i64 x2, .int .i64 x3, .int .i64 x4, .int .i64 x5, .int .i64 x6, .int .i64 x7, .int .i64 x8] 83) = w1 at *
          clear hall c c1 hc hel cs0 cs1 cs2 cs3 cs4 cs5 cs6 cs7 cs8
          refine wp_region_cls (fun v => v.cell? ⟨wr.heap.size, 0, none⟩ = some (.int .i64 x0) ∧ v.cell? ⟨wr.heap.size, 1, none⟩ = some (.int .i64 x1) ∧ v.cell? ⟨wr.heap.size, 2, none⟩ = some (.int .i64 x2) ∧ v.cell? ⟨wr.heap.size, 3, none⟩ = some (.int .i64 x3) ∧ v.cell? ⟨wr.heap.size, 4, none⟩ = some (.int .i64 x4) ∧ v.cell? ⟨wr.heap.size, 5, none⟩ = some (.int .i64 x5) ∧ v.cell? ⟨wr.heap.size, 6, none⟩ = some (.int .i64 x6) ∧ v.cell? ⟨wr.heap.size, 7, none⟩ = some (.int .i64 x7) ∧ v.cell? ⟨wr.heap.size, 8, none⟩ = some (.int .i64 x8)) (by kernel_rfl) (by kernel_rfl) (fun v hv => ⟨(hv.cell (p := ⟨wr.heap.size, 0, none⟩) (lt_of_cell f0)).trans f0, (hv.cell (p := ⟨wr.heap.size, 1, none⟩) (lt_of_cell f1)).trans f1, (hv.cell (p := ⟨wr.heap.size, 2, none⟩) (lt_of_cell f2)).trans f2, (hv.cell (p := ⟨wr.heap.size, 3, none⟩) (lt_of_cell f3)).trans f3, (hv.cell (p := ⟨wr.heap.size, 4, none⟩) (lt_of_cell f4)).trans f4, (hv.cell (p := ⟨wr.heap.size, 5, none⟩) (lt_of_cell f5)).trans f5, (hv.cell (p := ⟨wr.heap.size, 6, none⟩) (lt_of_cell f6)).trans f6, (hv.cell (p := ⟨wr.heap.size, 7, none⟩) (lt_of_cell f7)).trans f7, (hv.cell (p := ⟨wr.heap.size, 8, none⟩) (lt_of_cell f8)).trans f8⟩) ?_
          intro CL HF HC
          repeat
            (first
               | go_big_quiet_skip
               | (go_big_quiet_want
                  go_big_quiet_op
                  first
                    | go_big_quiet_on
                    | (apply Exists.intro
                       refine ⟨fun v hv => ?_, ?_⟩
                       · obtain ⟨a0, a1, a2, a3, a4, a5, a6, a7, a8⟩ := HF v hv
                         first
                           | (go_at_call 70; exact Calls.cls HC hv (iEntryOk_any x0 x1 x2 x3 x4 x5 x6 x7 x8 v) (congrArg Value.bool p1))
                           | exact rfl
                           | (go_simp; exact rfl)
                           | (go_simp; exact ⟨rfl, hv⟩)
                       go_big_quiet_on)))
          refine wpQuiet_nil ?_
          intro w3 b3
          have CC := Lib.hid (C.out.trans (b3.mono C.out.size))
          have HN := Lib.hid (show ∀ q, q < 0 + 1 → entsAt l q = true from fun q hq => by
            rcases Nat.lt_or_ge q (0) with h1 | h1
            · exact HA.out q h1
            · have : q = 0 := by omega
              subst this
              rw [HS.out]
              rw [P1.out]; rfl)
          go_wp2
          go_roundw
          case rel => exact ⟨0 + 1, by omega, by go_num, HN.out, CC.out⟩
          case measure => simp [intOf]; omega
        case neg =>
          obtain ⟨k, rfl⟩ : ∃ k, j = k + 1 := ⟨j - 1, by omega⟩
          have hkl : k < l.length := by omega
          obtain ⟨hd0, hd1, hd2, hd3, hd4, hd5, hd6, hd7, hd8⟩ := hc k hkl
          have ct0 := (c1.cell (p := ⟨b, off + k * 9, none⟩) (show b < _ by omega)).trans hd0
          obtain ⟨y0, hy0⟩ : ∃ q, q = l[k].idx := ⟨_, rfl⟩
          rw [← hy0] at ct0
          have ct1 := (c1.cell (p := ⟨b, off + k * 9 + 1, none⟩) (show b < _ by omega)).trans hd1
          obtain ⟨y1, hy1⟩ : ∃ q, q = l[k].tm := ⟨_, rfl⟩
          rw [← hy1] at ct1
          have ct2 := (c1.cell (p := ⟨b, off + k * 9 + 2, none⟩) (show b < _ by omega)).trans hd2
          obtain ⟨y2, hy2⟩ : ∃ q, q = l[k].cl := ⟨_, rfl⟩
          rw [← hy2] at ct2
          have ct3 := (c1.cell (p := ⟨b, off + k * 9 + 3, none⟩) (show b < _ by omega)).trans hd3
          obtain ⟨y3, hy3⟩ : ∃ q, q = l[k].sq := ⟨_, rfl⟩
          rw [← hy3] at ct3
          have ct4 := (c1.cell (p := ⟨b, off + k * 9 + 4, none⟩) (show b < _ by omega)).trans hd4
          obtain ⟨y4, hy4⟩ : ∃ q, q = l[k].kd := ⟨_, rfl⟩
          rw [← hy4] at ct4
          have ct5 := (c1.cell (p := ⟨b, off + k * 9 + 5, none⟩) (show b < _ by omega)).trans hd5
          obtain ⟨y5, hy5⟩ : ∃ q, q = l[k].oa := ⟨_, rfl⟩
          rw [← hy5] at ct5
          have ct6 := (c1.cell (p := ⟨b, off + k * 9 + 6, none⟩) (show b < _ by omega)).trans hd6
          obtain ⟨y6, hy6⟩ : ∃ q, q = l[k].ob := ⟨_, rfl⟩
          rw [← hy6] at ct6
          have ct7 := (c1.cell (p := ⟨b, off + k * 9 + 7, none⟩) (show b < _ by omega)).trans hd7
          obtain ⟨y7, hy7⟩ : ∃ q, q = l[k].oc := ⟨_, rfl⟩
          rw [← hy7] at ct7
          have ct8 := (c1.cell (p := ⟨b, off + k * 9 + 8, none⟩) (show b < _ by omega)).trans hd8
          obtain ⟨y8, hy8⟩ : ∃ q, q = l[k].od := ⟨_, rfl⟩
          rw [← hy8] at ct8
          have HY := Lib.hid (show 0 ≤ y0 ∧ y0 ≤ 1000000 by
            have h9 := hall k (by omega)
            rw [entsAt_eq hkl, Bool.and_eq_true] at h9
            rw [hy0]
            have := ((entB_iff _).1 h9.1).1
            omega)
          have HCA := Lib.hid (show nextAt l (k + 1) = (decide (x0 = y0 + 1) && decide (y1 ≤ x1)) by rw [nextAt_succ HJ.out, HX0.out, HX1.out, hy0, hy1])
          have k0' : (0 : Int) ≤ (k : Int) := by omega
          have k1' : (k : Int) < (n : Int) := by omega
          have ep : IntKind.i64.wrap (k : Int) = (k : Int) := by rw [IntKind.wrap_i64]; omega
          have zz : decide ((k : Int) + 1 > 0) = true := decide_eq_true (by omega)
          have zy : decide (0 < (k : Int) + 1) = true := decide_eq_true (by omega)
          clear hd0 hd1 hd2 hd3 hd4 hd5 hd6 hd7 hd8 hy0 hy1 hy2 hy3 hy4 hy5 hy6 hy7 hy8
          go_wp2_with fail
          generalize wr.alloc (.cells #[.int .i64 x0, .int .i64 x1, .int .i64 x2, .int .i64 x3, .int .i64 x4, .int .i64 x5, .int .i64 x6, .int .i64 x7, .int .i64 x8] 83) = w1 at *
          clear hall c c1 hc hel hj0 cs0 cs1 cs2 cs3 cs4 cs5 cs6 cs7 cs8
          cases p2 : (decide (x0 = y0 + 1) && decide (y1 ≤ x1))
          case false =>
            have P2 := Lib.hid p2
            refine wp_region_cls (fun v => v.cell? ⟨wr.heap.size, 0, none⟩ = some (.int .i64 x0) ∧ v.cell? ⟨wr.heap.size, 1, none⟩ = some (.int .i64 x1) ∧ v.cell? ⟨wr.heap.size, 2, none⟩ = some (.int .i64 x2) ∧ v.cell? ⟨wr.heap.size, 3, none⟩ = some (.int .i64 x3) ∧ v.cell? ⟨wr.heap.size, 4, none⟩ = some (.int .i64 x4) ∧ v.cell? ⟨wr.heap.size, 5, none⟩ = some (.int .i64 x5) ∧ v.cell? ⟨wr.heap.size, 6, none⟩ = some (.int .i64 x6) ∧ v.cell? ⟨wr.heap.size, 7, none⟩ = some (.int .i64 x7) ∧ v.cell? ⟨wr.heap.size, 8, none⟩ = some (.int .i64 x8) ∧ v.cell? ⟨b, off + k * 9, none⟩ = some (.int .i64 y0) ∧ v.cell? ⟨b, off + k * 9 + 1, none⟩ = some (.int .i64 y1) ∧ v.cell? ⟨b, off + k * 9 + 2, none⟩ = some (.int .i64 y2) ∧ v.cell? ⟨b, off + k * 9 + 3, none⟩ = some (.int .i64 y3) ∧ v.cell? ⟨b, off + k * 9 + 4, none⟩ = some (.int .i64 y4) ∧ v.cell? ⟨b, off + k * 9 + 5, none⟩ = some (.int .i64 y5) ∧ v.cell? ⟨b, off + k * 9 + 6, none⟩ = some (.int .i64 y6) ∧ v.cell? ⟨b, off + k * 9 + 7, none⟩ = some (.int .i64 y7) ∧ v.cell? ⟨b, off + k * 9 + 8, none⟩ = some (.int .i64 y8)) (by kernel_rfl) (by kernel_rfl) (fun v hv => ⟨(hv.cell (p := ⟨wr.heap.size, 0, none⟩) (lt_of_cell f0)).trans f0, (hv.cell (p := ⟨wr.heap.size, 1, none⟩) (lt_of_cell f1)).trans f1, (hv.cell (p := ⟨wr.heap.size, 2, none⟩) (lt_of_cell f2)).trans f2, (hv.cell (p := ⟨wr.heap.size, 3, none⟩) (lt_of_cell f3)).trans f3, (hv.cell (p := ⟨wr.heap.size, 4, none⟩) (lt_of_cell f4)).trans f4, (hv.cell (p := ⟨wr.heap.size, 5, none⟩) (lt_of_cell f5)).trans f5, (hv.cell (p := ⟨wr.heap.size, 6, none⟩) (lt_of_cell f6)).trans f6, (hv.cell (p := ⟨wr.heap.size, 7, none⟩) (lt_of_cell f7)).trans f7, (hv.cell (p := ⟨wr.heap.size, 8, none⟩) (lt_of_cell f8)).trans f8, (hv.cell (p := ⟨b, off + k * 9, none⟩) (lt_of_cell ct0)).trans ct0, (hv.cell (p := ⟨b, off + k * 9 + 1, none⟩) (lt_of_cell ct1)).trans ct1, (hv.cell (p := ⟨b, off + k * 9 + 2, none⟩) (lt_of_cell ct2)).trans ct2, (hv.cell (p := ⟨b, off + k * 9 + 3, none⟩) (lt_of_cell ct3)).trans ct3, (hv.cell (p := ⟨b, off + k * 9 + 4, none⟩) (lt_of_cell ct4)).trans ct4, (hv.cell (p := ⟨b, off + k * 9 + 5, none⟩) (lt_of_cell ct5)).trans ct5, (hv.cell (p := ⟨b, off + k * 9 + 6, none⟩) (lt_of_cell ct6)).trans ct6, (hv.cell (p := ⟨b, off + k * 9 + 7, none⟩) (lt_of_cell ct7)).trans ct7, (hv.cell (p := ⟨b, off + k * 9 + 8, none⟩) (lt_of_cell ct8)).trans ct8⟩) ?_
            intro CL HF HC
            repeat
              (first
                 | go_big_quiet_skip
                 | (go_big_quiet_want
                    go_big_quiet_op
                    first
                      | go_big_quiet_on
                      | (apply Exists.intro
                         refine ⟨fun v hv => ?_, ?_⟩
                         · obtain ⟨a0, a1, a2, a3, a4, a5, a6, a7, a8, a9, a10, a11, a12, a13, a14, a15, a16, a17⟩ := HF v hv
                           first
                             | (go_at_call 70; exact Calls.cls HC hv (iEntryOk_any x0 x1 x2 x3 x4 x5 x6 x7 x8 v) (congrArg Value.bool p1))
                             | (go_at_call 71; exact Calls.cls HC hv (iFollows_any x0 x1 x2 x3 x4 x5 x6 x7 x8 y0 y1 y2 y3 y4 y5 y6 y7 y8 HY.out v) (congrArg Value.bool p2))
                             | exact rfl
                             | (go_simp; exact rfl)
                             | (go_simp; exact ⟨rfl, hv⟩)
                         go_big_quiet_on)))
            refine wpQuiet_nil ?_
            intro w3 b3
            have CC := Lib.hid (C.out.trans (b3.mono C.out.size))
            go_wp2
            go_ret
            exact ⟨ret_bool (entsB_step HJ.out (by rw [HS.out]; rw [P1.out, HCA.out, P2.out]; rfl)).symm, CC.out⟩
          case true =>
            have P2 := Lib.hid p2
            refine wp_region_cls (fun v => v.cell? ⟨wr.heap.size, 0, none⟩ = some (.int .i64 x0) ∧ v.cell? ⟨wr.heap.size, 1, none⟩ = some (.int .i64 x1) ∧ v.cell? ⟨wr.heap.size, 2, none⟩ = some (.int .i64 x2) ∧ v.cell? ⟨wr.heap.size, 3, none⟩ = some (.int .i64 x3) ∧ v.cell? ⟨wr.heap.size, 4, none⟩ = some (.int .i64 x4) ∧ v.cell? ⟨wr.heap.size, 5, none⟩ = some (.int .i64 x5) ∧ v.cell? ⟨wr.heap.size, 6, none⟩ = some (.int .i64 x6) ∧ v.cell? ⟨wr.heap.size, 7, none⟩ = some (.int .i64 x7) ∧ v.cell? ⟨wr.heap.size, 8, none⟩ = some (.int .i64 x8) ∧ v.cell? ⟨b, off + k * 9, none⟩ = some (.int .i64 y0) ∧ v.cell? ⟨b, off + k * 9 + 1, none⟩ = some (.int .i64 y1) ∧ v.cell? ⟨b, off + k * 9 + 2, none⟩ = some (.int .i64 y2) ∧ v.cell? ⟨b, off + k * 9 + 3, none⟩ = some (.int .i64 y3) ∧ v.cell? ⟨b, off + k * 9 + 4, none⟩ = some (.int .i64 y4) ∧ v.cell? ⟨b, off + k * 9 + 5, none⟩ = some (.int .i64 y5) ∧ v.cell? ⟨b, off + k * 9 + 6, none⟩ = some (.int .i64 y6) ∧ v.cell? ⟨b, off + k * 9 + 7, none⟩ = some (.int .i64 y7) ∧ v.cell? ⟨b, off + k * 9 + 8, none⟩ = some (.int .i64 y8)) (by kernel_rfl) (by kernel_rfl) (fun v hv => ⟨(hv.cell (p := ⟨wr.heap.size, 0, none⟩) (lt_of_cell f0)).trans f0, (hv.cell (p := ⟨wr.heap.size, 1, none⟩) (lt_of_cell f1)).trans f1, (hv.cell (p := ⟨wr.heap.size, 2, none⟩) (lt_of_cell f2)).trans f2, (hv.cell (p := ⟨wr.heap.size, 3, none⟩) (lt_of_cell f3)).trans f3, (hv.cell (p := ⟨wr.heap.size, 4, none⟩) (lt_of_cell f4)).trans f4, (hv.cell (p := ⟨wr.heap.size, 5, none⟩) (lt_of_cell f5)).trans f5, (hv.cell (p := ⟨wr.heap.size, 6, none⟩) (lt_of_cell f6)).trans f6, (hv.cell (p := ⟨wr.heap.size, 7, none⟩) (lt_of_cell f7)).trans f7, (hv.cell (p := ⟨wr.heap.size, 8, none⟩) (lt_of_cell f8)).trans f8, (hv.cell (p := ⟨b, off + k * 9, none⟩) (lt_of_cell ct0)).trans ct0, (hv.cell (p := ⟨b, off + k * 9 + 1, none⟩) (lt_of_cell ct1)).trans ct1, (hv.cell (p := ⟨b, off + k * 9 + 2, none⟩) (lt_of_cell ct2)).trans ct2, (hv.cell (p := ⟨b, off + k * 9 + 3, none⟩) (lt_of_cell ct3)).trans ct3, (hv.cell (p := ⟨b, off + k * 9 + 4, none⟩) (lt_of_cell ct4)).trans ct4, (hv.cell (p := ⟨b, off + k * 9 + 5, none⟩) (lt_of_cell ct5)).trans ct5, (hv.cell (p := ⟨b, off + k * 9 + 6, none⟩) (lt_of_cell ct6)).trans ct6, (hv.cell (p := ⟨b, off + k * 9 + 7, none⟩) (lt_of_cell ct7)).trans ct7, (hv.cell (p := ⟨b, off + k * 9 + 8, none⟩) (lt_of_cell ct8)).trans ct8⟩) ?_
            intro CL HF HC
            repeat
              (first
                 | go_big_quiet_skip
                 | (go_big_quiet_want
                    go_big_quiet_op
                    first
                      | go_big_quiet_on
                      | (apply Exists.intro
                         refine ⟨fun v hv => ?_, ?_⟩
                         · obtain ⟨a0, a1, a2, a3, a4, a5, a6, a7, a8, a9, a10, a11, a12, a13, a14, a15, a16, a17⟩ := HF v hv
                           first
                             | (go_at_call 70; exact Calls.cls HC hv (iEntryOk_any x0 x1 x2 x3 x4 x5 x6 x7 x8 v) (congrArg Value.bool p1))
                             | (go_at_call 71; exact Calls.cls HC hv (iFollows_any x0 x1 x2 x3 x4 x5 x6 x7 x8 y0 y1 y2 y3 y4 y5 y6 y7 y8 HY.out v) (congrArg Value.bool p2))
                             | exact rfl
                             | (go_simp; exact rfl)
                             | (go_simp; exact ⟨rfl, hv⟩)
                         go_big_quiet_on)))
            refine wpQuiet_nil ?_
            intro w3 b3
            have CC := Lib.hid (C.out.trans (b3.mono C.out.size))
            have HN := Lib.hid (show ∀ q, q < (k + 1) + 1 → entsAt l q = true from fun q hq => by
              rcases Nat.lt_or_ge q ((k + 1)) with h1 | h1
              · exact HA.out q h1
              · have : q = (k + 1) := by omega
                subst this
                rw [HS.out]
                rw [P1.out, HCA.out, P2.out]; rfl)
            go_wp2
            go_roundw
            case rel => exact ⟨(k + 1) + 1, by omega, by go_num, HN.out, CC.out⟩
            case measure => simp [intOf]; omega
      · have HD := Lib.hid (show entsB l = true from entsB_end (by have := HL.out; omega) fun q hq => hall q (by have := HL.out; omega))
        have CC := Lib.hid c
        clear hall hel c
        go_wp2
        go_ret
        exact ⟨ret_bool HD.out.symm, CC.out⟩

end Go.Proofs.Ytepnghjmpbfmcaa

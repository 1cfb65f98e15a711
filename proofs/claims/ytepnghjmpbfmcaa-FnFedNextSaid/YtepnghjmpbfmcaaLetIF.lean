/-
  Chapter 11: valid feeds, of the program (by program, wip/gen/genletf.py).
-/
import Derived.Test.YtepnghjmpbfmcaaLetFN
import Derived.Test.YtepnghjmpbfmcaaLetI1
import Derived.Test.YtepnghjmpbfmcaaEntI5
import Derived.RegionTactic
import Derived.BigQuiet
import Derived.Laws.EntriesVeiled
namespace Go.Proofs.Ytepnghjmpbfmcaa
set_option maxRecDepth 100000
open Go.RowKit

set_option linter.unusedVariables false
set_option linter.unusedSimpArgs false
set_option maxHeartbeats 12800000 in
theorem iFeedFits_any (x0 x1 : Int) (A : Option Addr) (n cc B : Nat) (l : List EntM) (w : World) (h : Rd w B [entD l] [.slice A n cc]) (hB : B ≤ w.heap.size) (hs : entSz l ≤ 1048577) :
    Calls Try.prog 54 #[.agg #[.int .i64 x0, .int .i64 x1, .slice A n cc]] w fun e w' => e = .returned (.bool (feedOkB ⟨x0, x1, l⟩)) ∧ Below w.heap.size w w' := by
  have HH := Lib.hid h
  obtain ⟨_, _, _, e, hl, _, _, hel⟩ := h.ents
  injection e with e1 e2 e3
  subst e1 e2 e3
  have HL := Lib.hid hl
  clear h hl
  by_cases c2 : 0 ≤ x0
  case neg =>
    have g1 : decide (x0 < 0) = true := decide_eq_true (by omega)
    have HV := Lib.hid (feedOkB_not (x0 := x0) (x1 := x1) (l := l) (fun h9 => by omega))
    clear hel
    have S := Sep.nil w w.heap.size
    have c := Below.refl w.heap.size w
    replace S := S.boxAt c.size (w.heap.size) rfl #[.int .i64 x0, .int .i64 x1, .slice A n cc] 56
    replace c := c.alloc c.size (.cells #[.int .i64 x0, .int .i64 x1, .slice A n cc] 56)
    go_enter Try.func54, Try.ntmps54
    have f0 : (w.alloc (.cells #[.int .i64 x0, .int .i64 x1, .slice A n cc] 56)).cell? ⟨w.heap.size, 0, none⟩ = some (.int .i64 x0) := (S.at_ 0 rfl).cell 0
    have f1 : (w.alloc (.cells #[.int .i64 x0, .int .i64 x1, .slice A n cc] 56)).cell? ⟨w.heap.size, 1, none⟩ = some (.int .i64 x1) := (S.at_ 0 rfl).cell 1
    have f2 : (w.alloc (.cells #[.int .i64 x0, .int .i64 x1, .slice A n cc] 56)).cell? ⟨w.heap.size, 2, none⟩ = some (.slice A n cc) := (S.at_ 0 rfl).cell 2
    have CC := Lib.hid c
    clear S c
    go_wp2
    go_ret
    exact ⟨ret_bool HV.out.symm, CC.out⟩
  case pos =>
    have g1 : decide (x0 < 0) = false := decide_eq_false (by omega)
    by_cases c4 : x0 ≤ x1
    case neg =>
      have g2 : decide (x0 > x1) = true := decide_eq_true (by omega)
      have g3 : decide (x1 < x0) = true := decide_eq_true (by omega)
      have HV := Lib.hid (feedOkB_not (x0 := x0) (x1 := x1) (l := l) (fun h9 => by omega))
      clear hel
      have S := Sep.nil w w.heap.size
      have c := Below.refl w.heap.size w
      replace S := S.boxAt c.size (w.heap.size) rfl #[.int .i64 x0, .int .i64 x1, .slice A n cc] 56
      replace c := c.alloc c.size (.cells #[.int .i64 x0, .int .i64 x1, .slice A n cc] 56)
      go_enter Try.func54, Try.ntmps54
      have f0 : (w.alloc (.cells #[.int .i64 x0, .int .i64 x1, .slice A n cc] 56)).cell? ⟨w.heap.size, 0, none⟩ = some (.int .i64 x0) := (S.at_ 0 rfl).cell 0
      have f1 : (w.alloc (.cells #[.int .i64 x0, .int .i64 x1, .slice A n cc] 56)).cell? ⟨w.heap.size, 1, none⟩ = some (.int .i64 x1) := (S.at_ 0 rfl).cell 1
      have f2 : (w.alloc (.cells #[.int .i64 x0, .int .i64 x1, .slice A n cc] 56)).cell? ⟨w.heap.size, 2, none⟩ = some (.slice A n cc) := (S.at_ 0 rfl).cell 2
      have CC := Lib.hid c
      clear S c
      go_wp2
      go_ret
      exact ⟨ret_bool HV.out.symm, CC.out⟩
    case pos =>
      have g2 : decide (x0 > x1) = false := decide_eq_false (by omega)
      have g3 : decide (x1 < x0) = false := decide_eq_false (by omega)
      by_cases c6 : x1 ≤ 2000
      case neg =>
        have g4 : decide (x1 > 2000) = true := decide_eq_true (by omega)
        have g5 : decide (2000 < x1) = true := decide_eq_true (by omega)
        have HV := Lib.hid (feedOkB_not (x0 := x0) (x1 := x1) (l := l) (fun h9 => by omega))
        clear hel
        have S := Sep.nil w w.heap.size
        have c := Below.refl w.heap.size w
        replace S := S.boxAt c.size (w.heap.size) rfl #[.int .i64 x0, .int .i64 x1, .slice A n cc] 56
        replace c := c.alloc c.size (.cells #[.int .i64 x0, .int .i64 x1, .slice A n cc] 56)
        go_enter Try.func54, Try.ntmps54
        have f0 : (w.alloc (.cells #[.int .i64 x0, .int .i64 x1, .slice A n cc] 56)).cell? ⟨w.heap.size, 0, none⟩ = some (.int .i64 x0) := (S.at_ 0 rfl).cell 0
        have f1 : (w.alloc (.cells #[.int .i64 x0, .int .i64 x1, .slice A n cc] 56)).cell? ⟨w.heap.size, 1, none⟩ = some (.int .i64 x1) := (S.at_ 0 rfl).cell 1
        have f2 : (w.alloc (.cells #[.int .i64 x0, .int .i64 x1, .slice A n cc] 56)).cell? ⟨w.heap.size, 2, none⟩ = some (.slice A n cc) := (S.at_ 0 rfl).cell 2
        have CC := Lib.hid c
        clear S c
        go_wp2
        go_ret
        exact ⟨ret_bool HV.out.symm, CC.out⟩
      case pos =>
        have g4 : decide (x1 > 2000) = false := decide_eq_false (by omega)
        have g5 : decide (2000 < x1) = false := decide_eq_false (by omega)
        by_cases c8 : n ≤ 3
        case neg =>
          have g6 : decide ((n : Int) > 3) = true := decide_eq_true (by omega)
          have g7 : decide (3 < (n : Int)) = true := decide_eq_true (by omega)
          have g8 : decide (3 < n) = true := decide_eq_true (by omega)
          have HV := Lib.hid (feedOkB_not (x0 := x0) (x1 := x1) (l := l) (fun h9 => by have := HL.out; omega))
          clear hel
          have S := Sep.nil w w.heap.size
          have c := Below.refl w.heap.size w
          replace S := S.boxAt c.size (w.heap.size) rfl #[.int .i64 x0, .int .i64 x1, .slice A n cc] 56
          replace c := c.alloc c.size (.cells #[.int .i64 x0, .int .i64 x1, .slice A n cc] 56)
          go_enter Try.func54, Try.ntmps54
          have f0 : (w.alloc (.cells #[.int .i64 x0, .int .i64 x1, .slice A n cc] 56)).cell? ⟨w.heap.size, 0, none⟩ = some (.int .i64 x0) := (S.at_ 0 rfl).cell 0
          have f1 : (w.alloc (.cells #[.int .i64 x0, .int .i64 x1, .slice A n cc] 56)).cell? ⟨w.heap.size, 1, none⟩ = some (.int .i64 x1) := (S.at_ 0 rfl).cell 1
          have f2 : (w.alloc (.cells #[.int .i64 x0, .int .i64 x1, .slice A n cc] 56)).cell? ⟨w.heap.size, 2, none⟩ = some (.slice A n cc) := (S.at_ 0 rfl).cell 2
          have CC := Lib.hid c
          clear S c
          go_wp2
          go_ret
          exact ⟨ret_bool HV.out.symm, CC.out⟩
        case pos =>
          have g6 : decide ((n : Int) > 3) = false := decide_eq_false (by omega)
          have g7 : decide (3 < (n : Int)) = false := decide_eq_false (by omega)
          have g8 : decide (3 < n) = false := decide_eq_false (by omega)
          have S := Sep.nil w w.heap.size
          have c := Below.refl w.heap.size w
          replace S := S.boxAt c.size (w.heap.size) rfl #[.int .i64 x0, .int .i64 x1, .slice A n cc] 56
          replace c := c.alloc c.size (.cells #[.int .i64 x0, .int .i64 x1, .slice A n cc] 56)
          go_enter Try.func54, Try.ntmps54
          have f0 : (w.alloc (.cells #[.int .i64 x0, .int .i64 x1, .slice A n cc] 56)).cell? ⟨w.heap.size, 0, none⟩ = some (.int .i64 x0) := (S.at_ 0 rfl).cell 0
          have f1 : (w.alloc (.cells #[.int .i64 x0, .int .i64 x1, .slice A n cc] 56)).cell? ⟨w.heap.size, 1, none⟩ = some (.int .i64 x1) := (S.at_ 0 rfl).cell 1
          have f2 : (w.alloc (.cells #[.int .i64 x0, .int .i64 x1, .slice A n cc] 56)).cell? ⟨w.heap.size, 2, none⟩ = some (.slice A n cc) := (S.at_ 0 rfl).cell 2
          have hr2 := HH.out.keep (c.mono hB)
          go_wp2_with fail
          generalize w.alloc (.cells #[.int .i64 x0, .int .i64 x1, .slice A n cc] 56) = w1 at *
          refine (iEntries_any A n cc B l _ hr2 (Nat.le_trans hB c.size) hs).mono ?_
          rintro e w2 ⟨rfl, b2⟩
          replace c := c.trans (b2.mono c.size)
          replace S := S.keep b2
          clear b2 f0 f1 f2
          clear hr2
          cases hE : entsB l
          case false =>
            have HV := Lib.hid (feedOkB_not (x0 := x0) (x1 := x1) (l := l) (fun h9 => by rw [hE] at h9; exact absurd h9.2.2.2 (by decide)))
            have CC := Lib.hid c
            clear S c hel hE
            go_wp2
            go_ret
            exact ⟨ret_bool HV.out.symm, CC.out⟩
          case true =>
            have HV := Lib.hid (feedOkB_mid (x0 := x0) (x1 := x1) (l := l) (by omega) (by omega) (by have := HL.out; omega) hE)
            clear hE
            have f3 : w2.cell? ⟨w.heap.size, 0, none⟩ = some (.int .i64 x0) := (S.at_ 0 rfl).cell 0
            have f4 : w2.cell? ⟨w.heap.size, 1, none⟩ = some (.int .i64 x1) := (S.at_ 0 rfl).cell 1
            have f5 : w2.cell? ⟨w.heap.size, 2, none⟩ = some (.slice A n cc) := (S.at_ 0 rfl).cell 2
            by_cases hn0 : n = 0
            case pos =>
              have HZ := Lib.hid (feedIn_nil (x0 := x0) (x1 := x1) (l := l) (by have := HL.out; omega))
              have e1 : ((n : Int) == 0) = true := by simp; omega
              have e2 : decide ((n : Int) = 0) = true := by simp; omega
              have e3 : decide (n = 0) = true := by simp; omega
              have e4 : (n == 0) = true := by simp; omega
              clear hel hn0
              go_wp2_with fail
              refine wp_region_cls (fun v => v.cell? ⟨w.heap.size, 0, none⟩ = some (.int .i64 x0) ∧ v.cell? ⟨w.heap.size, 1, none⟩ = some (.int .i64 x1) ∧ v.cell? ⟨w.heap.size, 2, none⟩ = some (.slice A n cc)) (by kernel_rfl) (by kernel_rfl) (fun v hv => ⟨(hv.cell (p := ⟨w.heap.size, 0, none⟩) (lt_of_cell f3)).trans f3, (hv.cell (p := ⟨w.heap.size, 1, none⟩) (lt_of_cell f4)).trans f4, (hv.cell (p := ⟨w.heap.size, 2, none⟩) (lt_of_cell f5)).trans f5⟩) ?_
              intro CL HF HC
              repeat
                (first
                   | go_big_quiet_skip
                   | (go_big_quiet_want
                      go_big_quiet_op
                      first
                        | go_big_quiet_on
                        | (apply Exists.intro
                           refine ⟨fun v hv => ?_, ?_⟩
                           · obtain ⟨a0, a1, a2⟩ := HF v hv
                             first
                               | exact rfl
                               | (go_simp; exact rfl)
                               | (go_simp; exact ⟨rfl, hv⟩)
                           go_big_quiet_on)))
              refine wpQuiet_nil ?_
              intro w9 b9
              have CC := Lib.hid (c.trans (b9.mono c.size))
              clear b9 S c
              go_wp2
              go_ret
              exact ⟨ret_bool (HV.out.trans HZ.out).symm, CC.out⟩
            case neg =>
              have e1 : ((n : Int) == 0) = false := by simp; omega
              have e2 : decide ((n : Int) = 0) = false := by simp; omega
              have e3 : decide (n = 0) = false := by simp; omega
              have e4 : (n == 0) = false := by simp; omega
              obtain ⟨b, off, rfl, hb, hc⟩ := hel (by omega)
              obtain ⟨k, hk⟩ : ∃ k, n = k + 1 := ⟨n - 1, by omega⟩
              have h0l : 0 < l.length := by have := HL.out; omega
              have hkl : k < l.length := by have := HL.out; omega
              have hc0 := (hc 0 h0l).1
              have hck := (hc k hkl).1
              rw [Nat.zero_mul, Nat.add_zero] at hc0
              obtain ⟨y0, hy0⟩ : ∃ q, q = l[0].idx := ⟨_, rfl⟩
              obtain ⟨y1, hy1⟩ : ∃ q, q = l[k].idx := ⟨_, rfl⟩
              rw [← hy0] at hc0
              rw [← hy1] at hck
              have ct0 := (c.cell (p := ⟨b, off, none⟩) (show b < _ by omega)).trans hc0
              have ct1 := (c.cell (p := ⟨b, off + k * 9, none⟩) (show b < _ by omega)).trans hck
              have HI := Lib.hid (show feedIn ⟨x0, x1, l⟩ = (decide (x0 < y0) && decide (y1 ≤ x1)) by rw [feedIn_some (k := k) (by have := HL.out; omega) h0l hkl, ← hy0, ← hy1])
              have k0' : (0 : Int) ≤ (k : Int) := by omega
              have k1' : (k : Int) < (n : Int) := by omega
              have k2' : k < n := by omega
              have k3' : (0 : Int) < (n : Int) := by omega
              have k4' : 0 < n := by omega
              have ep : IntKind.i64.wrap ((n : Int) - 1) = (k : Int) := by rw [IntKind.wrap_i64]; omega
              clear hel hc hc0 hck hy0 hy1 hk h0l hkl hn0
              by_cases q0 : x0 < y0
              case neg =>
                have g9 : decide (y0 > x0) = false := decide_eq_false (by omega)
                have ga : decide (x0 < y0) = false := decide_eq_false (by omega)
                have HZ := Lib.hid (show feedIn ⟨x0, x1, l⟩ = false by rw [HI.out, ga]; rfl)
                go_wp2_with fail
                refine wp_region_cls (fun v => v.cell? ⟨w.heap.size, 0, none⟩ = some (.int .i64 x0) ∧ v.cell? ⟨w.heap.size, 1, none⟩ = some (.int .i64 x1) ∧ v.cell? ⟨w.heap.size, 2, none⟩ = some (.slice (some ⟨b, off, none⟩) n cc) ∧ v.cell? ⟨b, off, none⟩ = some (.int .i64 y0) ∧ v.cell? ⟨b, off + k * 9, none⟩ = some (.int .i64 y1)) (by kernel_rfl) (by kernel_rfl) (fun v hv => ⟨(hv.cell (p := ⟨w.heap.size, 0, none⟩) (lt_of_cell f3)).trans f3, (hv.cell (p := ⟨w.heap.size, 1, none⟩) (lt_of_cell f4)).trans f4, (hv.cell (p := ⟨w.heap.size, 2, none⟩) (lt_of_cell f5)).trans f5, (hv.cell (p := ⟨b, off, none⟩) (lt_of_cell ct0)).trans ct0, (hv.cell (p := ⟨b, off + k * 9, none⟩) (lt_of_cell ct1)).trans ct1⟩) ?_
                intro CL HF HC
                repeat
                  (first
                     | go_big_quiet_skip
                     | (go_big_quiet_want
                        go_big_quiet_op
                        first
                          | go_big_quiet_on
                          | (apply Exists.intro
                             refine ⟨fun v hv => ?_, ?_⟩
                             · obtain ⟨a0, a1, a2, a3, a4⟩ := HF v hv
                               first
                                 | exact rfl
                                 | (go_simp; exact rfl)
                                 | (go_simp; exact ⟨rfl, hv⟩)
                             go_big_quiet_on)))
                refine wpQuiet_nil ?_
                intro w9 b9
                have CC := Lib.hid (c.trans (b9.mono c.size))
                clear b9 S c
                go_wp2
                go_ret
                exact ⟨ret_bool (HV.out.trans HZ.out).symm, CC.out⟩
              case pos =>
                have g9 : decide (y0 > x0) = true := decide_eq_true (by omega)
                have ga : decide (x0 < y0) = true := decide_eq_true (by omega)
                by_cases q1 : y1 ≤ x1
                case neg =>
                  have gb : decide (y1 ≤ x1) = false := decide_eq_false (by omega)
                  have HZ := Lib.hid (show feedIn ⟨x0, x1, l⟩ = false by rw [HI.out, ga, gb]; rfl)
                  go_wp2_with fail
                  refine wp_region_cls (fun v => v.cell? ⟨w.heap.size, 0, none⟩ = some (.int .i64 x0) ∧ v.cell? ⟨w.heap.size, 1, none⟩ = some (.int .i64 x1) ∧ v.cell? ⟨w.heap.size, 2, none⟩ = some (.slice (some ⟨b, off, none⟩) n cc) ∧ v.cell? ⟨b, off, none⟩ = some (.int .i64 y0) ∧ v.cell? ⟨b, off + k * 9, none⟩ = some (.int .i64 y1)) (by kernel_rfl) (by kernel_rfl) (fun v hv => ⟨(hv.cell (p := ⟨w.heap.size, 0, none⟩) (lt_of_cell f3)).trans f3, (hv.cell (p := ⟨w.heap.size, 1, none⟩) (lt_of_cell f4)).trans f4, (hv.cell (p := ⟨w.heap.size, 2, none⟩) (lt_of_cell f5)).trans f5, (hv.cell (p := ⟨b, off, none⟩) (lt_of_cell ct0)).trans ct0, (hv.cell (p := ⟨b, off + k * 9, none⟩) (lt_of_cell ct1)).trans ct1⟩) ?_
                  intro CL HF HC
                  repeat
                    (first
                       | go_big_quiet_skip
                       | (go_big_quiet_want
                          go_big_quiet_op
                          first
                            | go_big_quiet_on
                            | (apply Exists.intro
                               refine ⟨fun v hv => ?_, ?_⟩
                               · obtain ⟨a0, a1, a2, a3, a4⟩ := HF v hv
                                 first
                                   | exact rfl
                                   | (go_simp; exact rfl)
                                   | (go_simp; exact ⟨rfl, hv⟩)
                               go_big_quiet_on)))
                  refine wpQuiet_nil ?_
                  intro w9 b9
                  have CC := Lib.hid (c.trans (b9.mono c.size))
                  clear b9 S c
                  go_wp2
                  go_ret
                  exact ⟨ret_bool (HV.out.trans HZ.out).symm, CC.out⟩
                case pos =>
                  have gb : decide (y1 ≤ x1) = true := decide_eq_true (by omega)
                  have HZ := Lib.hid (show feedIn ⟨x0, x1, l⟩ = true by rw [HI.out, ga, gb]; rfl)
                  go_wp2_with fail
                  refine wp_region_cls (fun v => v.cell? ⟨w.heap.size, 0, none⟩ = some (.int .i64 x0) ∧ v.cell? ⟨w.heap.size, 1, none⟩ = some (.int .i64 x1) ∧ v.cell? ⟨w.heap.size, 2, none⟩ = some (.slice (some ⟨b, off, none⟩) n cc) ∧ v.cell? ⟨b, off, none⟩ = some (.int .i64 y0) ∧ v.cell? ⟨b, off + k * 9, none⟩ = some (.int .i64 y1)) (by kernel_rfl) (by kernel_rfl) (fun v hv => ⟨(hv.cell (p := ⟨w.heap.size, 0, none⟩) (lt_of_cell f3)).trans f3, (hv.cell (p := ⟨w.heap.size, 1, none⟩) (lt_of_cell f4)).trans f4, (hv.cell (p := ⟨w.heap.size, 2, none⟩) (lt_of_cell f5)).trans f5, (hv.cell (p := ⟨b, off, none⟩) (lt_of_cell ct0)).trans ct0, (hv.cell (p := ⟨b, off + k * 9, none⟩) (lt_of_cell ct1)).trans ct1⟩) ?_
                  intro CL HF HC
                  repeat
                    (first
                       | go_big_quiet_skip
                       | (go_big_quiet_want
                          go_big_quiet_op
                          first
                            | go_big_quiet_on
                            | (apply Exists.intro
                               refine ⟨fun v hv => ?_, ?_⟩
                               · obtain ⟨a0, a1, a2, a3, a4⟩ := HF v hv
                                 first
                                   | exact rfl
                                   | (go_simp; exact rfl)
                                   | (go_simp; exact ⟨rfl, hv⟩)
                               go_big_quiet_on)))
                  refine wpQuiet_nil ?_
                  intro w9 b9
                  have CC := Lib.hid (c.trans (b9.mono c.size))
                  clear b9 S c
                  go_wp2
                  go_ret
                  exact ⟨ret_bool (HV.out.trans HZ.out).symm, CC.out⟩

set_option maxHeartbeats 3200000 in
theorem iFeedOk_any (x0 x1 : Int) (A : Option Addr) (n cc B : Nat) (l : List EntM) (w : World) (h : Rd w B [entD l] [.slice A n cc]) (hB : B ≤ w.heap.size) (hs : entSz l ≤ 1048577) :
    Calls Try.prog 37 #[.agg #[.int .i64 x0, .int .i64 x1, .slice A n cc]] w fun e w' => e = .returned (.bool (feedOkB ⟨x0, x1, l⟩)) ∧ Below w.heap.size w w' := by
  have S := (Sep.nil w w.heap.size).boxAt (Nat.le_refl _) w.heap.size rfl #[.int .i64 x0, .int .i64 x1, .slice A n cc] 56
  have c := (Below.refl w.heap.size w).alloc (Nat.le_refl _) (.cells #[.int .i64 x0, .int .i64 x1, .slice A n cc] 56)
  have HR := h.keep (c.mono hB)
  go_enter Try.func37, Try.ntmps37
  have f0 : (w.alloc (.cells #[.int .i64 x0, .int .i64 x1, .slice A n cc] 56)).cell? ⟨w.heap.size, 0, none⟩ = some (.int .i64 x0) := (S.at_ 0 rfl).cell 0
  have f1 : (w.alloc (.cells #[.int .i64 x0, .int .i64 x1, .slice A n cc] 56)).cell? ⟨w.heap.size, 1, none⟩ = some (.int .i64 x1) := (S.at_ 0 rfl).cell 1
  have f2 : (w.alloc (.cells #[.int .i64 x0, .int .i64 x1, .slice A n cc] 56)).cell? ⟨w.heap.size, 2, none⟩ = some (.slice A n cc) := (S.at_ 0 rfl).cell 2
  go_wp2_with fail
  refine (iFeedFits_any x0 x1 A n cc B l _ HR (Nat.le_trans hB c.size) hs).mono ?_
  rintro e w1 ⟨rfl, b⟩
  have C := Lib.hid (c.trans (b.mono c.size))
  go_wp2
  go_ret
  exact ⟨rfl, C.out⟩
theorem iFeedOk_at (x0 x1 : Int) (A : Option Addr) (n c : Nat) (d0 : FeedM) (w : World) (h : Rd w w.heap.size d0.cells [.int .i64 x0, .int .i64 x1, .slice A n c]) (hs : d0.sz ≤ 1048576) :
    Calls Try.prog 37 #[.agg #[.int .i64 x0, .int .i64 x1, .slice A n c]] w fun e w' => e = .returned (.bool (feedOkB d0)) ∧ Below w.heap.size w w' := by
  obtain ⟨l, rfl, h2⟩ := feed_rd h
  exact iFeedOk_any x0 x1 A n c w.heap.size l w h2 (Nat.le_refl _) (by have : entSz l ≤ 1048576 := hs; omega)

end Go.Proofs.Ytepnghjmpbfmcaa

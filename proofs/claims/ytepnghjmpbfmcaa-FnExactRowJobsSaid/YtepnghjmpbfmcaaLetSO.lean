/-
  Chapter 11: open jobs and lists of jobs, of the model (by program, wip/gen/genletsj.py).
-/
import Derived.Test.YtepnghjmpbfmcaaLetJ
import Derived.Test.YtepnghjmpbfmcaaEntS1
import Derived.Test.YtepnghjmpbfmcaaCls
import Derived.RegionTactic
import Derived.BigQuiet
import Derived.Laws.EntriesVeiled
namespace Go.Proofs.Ytepnghjmpbfmcaa
set_option maxRecDepth 100000
open Go.RowKit

set_option linter.unusedSimpArgs false
theorem sId_any (x : Int) (w : World) : Calls Try.prog 65 #[.int .i64 x] w fun e w' => e = .returned (.bool (inB x 1 20)) ∧ Below w.heap.size w w' := by
  by_cases h : 1 ≤ x ∧ x ≤ 20
  · refine (l7Id_yes x w h).mono ?_
    rintro e w' ⟨rfl, rfl⟩
    exact ⟨ret_bool ((inB_iff _ _ _).2 h).symm, Below.refl _ _⟩
  · refine (l7Id_no x w h).mono ?_
    rintro e w' ⟨rfl, rfl⟩
    exact ⟨ret_bool (Bool.eq_false_iff.2 fun h9 => h ((inB_iff _ _ _).1 h9)).symm, Below.refl _ _⟩
theorem sTime_anyB (x : Int) (w : World) : Calls Try.prog 56 #[.int .i64 x] w fun e w' => e = .returned (.bool (inB x 0 1000000)) ∧ Below w.heap.size w w' := by
  by_cases h : 0 ≤ x ∧ x ≤ 1000000
  · refine (TimeOk_yes x w h).mono ?_
    rintro e w' ⟨rfl, rfl⟩
    exact ⟨ret_bool ((inB_iff _ _ _).2 h).symm, Below.refl _ _⟩
  · refine (TimeOk_no x w h).mono ?_
    rintro e w' ⟨rfl, rfl⟩
    exact ⟨ret_bool (Bool.eq_false_iff.2 fun h9 => h ((inB_iff _ _ _).1 h9)).symm, Below.refl _ _⟩
set_option maxHeartbeats 1600000 in
theorem sDueLess_any (x0 x1 y0 y1 : Int) (w : World) :
    Calls Try.prog 66 #[.agg #[.int .i64 x0, .int .i64 x1], .agg #[.int .i64 y0, .int .i64 y1]] w fun e w' => e = .returned (.bool (timLess ⟨x0, x1⟩ ⟨y0, y1⟩)) ∧ Below w.heap.size w w' := by
  go_enter Try.func66, Try.ntmps66
  go_wp2
  all_goals
    go_ret
    refine ⟨ret_bool ?_, (by repeat (first | exact Below.refl _ _ | refine Below.alloc ?_ (by first | exact Nat.le_refl _ | (simp; done) | (simp; omega)) _))⟩
    first | rfl | (simp_all [timLess]; done) | (rw [Bool.eq_iff_iff]; simp_all [timLess] <;> omega) | (simp_all [timLess] <;> omega)

set_option maxHeartbeats 1600000 in
theorem sSched_anyX (x : Int) (w : World) :
    Calls Try.prog 57 #[.int .i64 x] w fun e w' => e = .returned (.bool (schedB x)) ∧ Below w.heap.size w w' := by
  go_enter Try.func57, Try.ntmps57
  go_wp2
  all_goals
    go_ret
    refine ⟨ret_bool ?_, (by repeat (first | exact Below.refl _ _ | refine Below.alloc ?_ (by first | exact Nat.le_refl _ | (simp; done) | (simp; omega)) _))⟩
    first | rfl | (simp_all [schedB]; done) | (rw [Bool.eq_iff_iff]; simp_all [schedB] <;> omega) | (simp_all [schedB] <;> omega)

theorem sSched_yes (x : Int) (w : World) (h : 2 ≤ x ∧ x ≤ 3) : Calls Try.prog 57 #[.int .i64 x] w fun e w' => e = .returned (.bool true) ∧ w = w' := by
  go_enter Try.func57, Try.ntmps57
  go_wp2
  all_goals
    go_ret
    refine ⟨ret_bool ?_, rfl⟩
    first | rfl | (simp_all; done) | (simp_all <;> omega) | omega
theorem sSched_no (x : Int) (w : World) (h : ¬ (2 ≤ x ∧ x ≤ 3)) : Calls Try.prog 57 #[.int .i64 x] w fun e w' => e = .returned (.bool false) ∧ w = w' := by
  have h2 : (x == 2) = false := by simp; omega
  have h3 : (x == 3) = false := by simp; omega
  clear h
  go_enter Try.func57, Try.ntmps57
  go_wp2
  go_ret
  exact ⟨rfl, rfl⟩

set_option maxHeartbeats 12800000 in
theorem sOpen_any (A : Option Addr) (n cc B : Nat) (l : List TimerM) (w : World) (h : Rd w B [djD l] [.slice A n cc]) (hB : B ≤ w.heap.size) (hs : djSz l ≤ 1048577) :
    Calls Try.prog 58 #[.slice A n cc] w fun e w' => e = .returned (.bool (openB l)) ∧ Below w.heap.size w w' := by
  obtain ⟨_, _, _, e, hl, _, _, hel⟩ := h.djs
  injection e with e1 e2 e3
  subst e1 e2 e3
  have HL := Lib.hid hl
  have hn : n ≤ 1048577 := by unfold djSz at hs; omega
  clear h hl hs
  by_cases h16 : 8 < n
  case pos =>
    have HD := Lib.hid (openB_long (l := l) (by have := HL.out; omega))
    clear hel
    go_enter Try.func58, Try.ntmps58
    go_wp2
    go_ret
    exact ⟨ret_bool HD.out.symm, Below.refl _ _⟩
  case neg =>
    go_enter Try.func58, Try.ntmps58
    go_wp2
    go_loopw [3] (fun i wr => ∃ j : Nat, j ≤ n ∧ i = .int .i64 (j : Int) ∧ (∀ q, q < j → openAt l q = true) ∧ Below w.heap.size w wr) (fun i _ => n - (intOf i).toNat)
    case atStart => exact ⟨0, Nat.zero_le _, rfl, fun q hq => absurd hq (by omega), Below.refl _ _⟩
    case round =>
      obtain ⟨j, hj, rfl, hall, c⟩ := hrel
      by_cases hlt : j < n
      · obtain ⟨b, off, rfl, hb, hc⟩ := hel (by omega)
        have hjl : j < l.length := by have := HL.out; omega
        obtain ⟨hc0, hc1⟩ := hc j hjl
        have cs0 := (c.cell (p := ⟨b, off + j * 2, none⟩) (show b < _ by omega)).trans hc0
        have cs1 := (c.cell (p := ⟨b, off + j * 2 + 1, none⟩) (show b < _ by omega)).trans hc1
        obtain ⟨x0, hx0⟩ : ∃ q, q = l[j].tid := ⟨_, rfl⟩
        obtain ⟨x1, hx1⟩ : ∃ q, q = l[j].due := ⟨_, rfl⟩
        rw [← hx0] at cs0
        rw [← hx1] at cs1
        have hmk : l[j] = ⟨x0, x1⟩ := by rw [hx0, hx1]
        have HS := Lib.hid (show openAt l j = (dueB ⟨x0, x1⟩ && (ordAt l j && noneId l j x0)) by unfold openAt; rw [disAt_eq hjl, tgetD hjl, hmk])
        have HA := Lib.hid hall
        have HJ := Lib.hid hjl
        have C := Lib.hid c
        have HEL := Lib.hid hc
        have zb := c.size
        have HM := Lib.hid hmk
        clear hx0 hx1 hc0 hc1 hall hel
        cases p0 : inB x0 1 20
        case false =>
          have P0 := Lib.hid p0
          clear hmk hc c
          go_wp2_with fail
          refine wp_region_cls (fun v => v.cell? ⟨b, off + j * 2, none⟩ = some (.int .i64 x0) ∧ v.cell? ⟨b, off + j * 2 + 1, none⟩ = some (.int .i64 x1)) (by kernel_rfl) (by kernel_rfl) (fun v hv => ⟨(hv.cell (p := ⟨b, off + j * 2, none⟩) (lt_of_cell cs0)).trans cs0, (hv.cell (p := ⟨b, off + j * 2 + 1, none⟩) (lt_of_cell cs1)).trans cs1⟩) ?_
          intro CL HF HC
          repeat
            (first
               | go_big_quiet_skip
               | (go_big_quiet_want
                  go_big_quiet_op
                  first
                    | go_big_quiet_on
                    | (apply Exists.intro
                       refine ⟨fun v hv => ?_, ?_⟩
                       · obtain ⟨a0, a1⟩ := HF v hv
                         first
                           | (go_at_call 65; exact Calls.cls HC hv (sId_any x0 v) (congrArg Value.bool p0))
                           | exact rfl
                           | (go_simp; exact rfl)
                           | (go_simp; exact ⟨rfl, hv⟩)
                       go_big_quiet_on)))
          refine wpQuiet_nil ?_
          intro w3 b3
          have CC := Lib.hid (C.out.trans (b3.mono C.out.size))
          go_wp2
          go_ret
          exact ⟨ret_bool (openB_step HJ.out (by rw [HS.out]; simp [dueB, P0.out])).symm, CC.out⟩
        case true =>
        cases p1 : inB x1 0 1000000
        case false =>
          have P0 := Lib.hid p0
          have P1 := Lib.hid p1
          clear hmk hc c
          go_wp2_with fail
          refine wp_region_cls (fun v => v.cell? ⟨b, off + j * 2, none⟩ = some (.int .i64 x0) ∧ v.cell? ⟨b, off + j * 2 + 1, none⟩ = some (.int .i64 x1)) (by kernel_rfl) (by kernel_rfl) (fun v hv => ⟨(hv.cell (p := ⟨b, off + j * 2, none⟩) (lt_of_cell cs0)).trans cs0, (hv.cell (p := ⟨b, off + j * 2 + 1, none⟩) (lt_of_cell cs1)).trans cs1⟩) ?_
          intro CL HF HC
          repeat
            (first
               | go_big_quiet_skip
               | (go_big_quiet_want
                  go_big_quiet_op
                  first
                    | go_big_quiet_on
                    | (apply Exists.intro
                       refine ⟨fun v hv => ?_, ?_⟩
                       · obtain ⟨a0, a1⟩ := HF v hv
                         first
                           | (go_at_call 65; exact Calls.cls HC hv (sId_any x0 v) (congrArg Value.bool p0))
                           | (go_at_call 56; exact Calls.cls HC hv (sTime_anyB x1 v) (congrArg Value.bool p1))
                           | exact rfl
                           | (go_simp; exact rfl)
                           | (go_simp; exact ⟨rfl, hv⟩)
                       go_big_quiet_on)))
          refine wpQuiet_nil ?_
          intro w3 b3
          have CC := Lib.hid (C.out.trans (b3.mono C.out.size))
          go_wp2
          go_ret
          exact ⟨ret_bool (openB_step HJ.out (by rw [HS.out]; simp [dueB, P1.out])).symm, CC.out⟩
        case true =>
        have P0 := Lib.hid p0
        have P1 := Lib.hid p1
        by_cases hj0 : j = 0
        case pos =>
          have zz : decide ((j : Int) > 0) = false := decide_eq_false (by omega)
          have zy : decide (0 < (j : Int)) = false := decide_eq_false (by omega)
          have zx : decide (0 < j) = false := decide_eq_false (by omega)
          have HO := Lib.hid (show ordAt l j = true by subst hj0; rfl)
          clear hmk hc c hj0
          go_wp2_with fail
          refine wp_region_cls (fun v => v.cell? ⟨b, off + j * 2, none⟩ = some (.int .i64 x0) ∧ v.cell? ⟨b, off + j * 2 + 1, none⟩ = some (.int .i64 x1)) (by kernel_rfl) (by kernel_rfl) (fun v hv => ⟨(hv.cell (p := ⟨b, off + j * 2, none⟩) (lt_of_cell cs0)).trans cs0, (hv.cell (p := ⟨b, off + j * 2 + 1, none⟩) (lt_of_cell cs1)).trans cs1⟩) ?_
          intro CL HF HC
          repeat
            (first
               | go_big_quiet_skip
               | (go_big_quiet_want
                  go_big_quiet_op
                  first
                    | go_big_quiet_on
                    | (apply Exists.intro
                       refine ⟨fun v hv => ?_, ?_⟩
                       · obtain ⟨a0, a1⟩ := HF v hv
                         first
                           | (go_at_call 65; exact Calls.cls HC hv (sId_any x0 v) (congrArg Value.bool p0))
                           | (go_at_call 56; exact Calls.cls HC hv (sTime_anyB x1 v) (congrArg Value.bool p1))
                           | exact rfl
                           | (go_simp; exact rfl)
                           | (go_simp; exact ⟨rfl, hv⟩)
                       go_big_quiet_on)))
          refine wpQuiet_nil ?_
          intro w3 b3
          have CC := Lib.hid (C.out.trans (b3.mono C.out.size))
          have CB := Lib.hid CC.out
          clear CC b3 cs0 cs1
          go_wp2
          go_loopw [4] (fun u wr => ∃ q : Nat, q ≤ j ∧ u = .int .i64 (q : Int) ∧ noneId l q x0 = true ∧ Below w.heap.size w wr) (fun u _ => j - (intOf u).toNat)
          case atStart => exact ⟨0, Nat.zero_le _, rfl, noneId_zero _ _, CB.out⟩
          case round =>
            obtain ⟨q, hq, rfl, hno, c⟩ := hrel
            clear CB
            by_cases hlq : q < j
            · have hql : q < l.length := by have := HJ.out; omega
              obtain ⟨hd0, _⟩ := HEL.out q hql
              obtain ⟨hf0, _⟩ := HEL.out j HJ.out
              have ct0 := (c.cell (p := ⟨b, off + q * 2, none⟩) (show b < _ by omega)).trans hd0
              have cs0 := (c.cell (p := ⟨b, off + j * 2, none⟩) (show b < _ by omega)).trans hf0
              obtain ⟨y0, hy0⟩ : ∃ p, p = l[q].tid := ⟨_, rfl⟩
              rw [← hy0] at ct0
              rw [HM.out] at cs0
              have HY := Lib.hid hy0
              have HQ := Lib.hid hql
              have HN := Lib.hid hno
              have hqn : q < n := by omega
              have C9 := Lib.hid c
              clear hd0 hf0 hy0 hno c
              by_cases hd : y0 = x0
              case pos =>
                have HE := Lib.hid (show openB l = false from openB_step HJ.out (by rw [HS.out, noneId_bad HQ.out hlq (by rw [← HY.out]; exact hd)]; simp))
                have e1 : (y0 == x0) = true := by simpa using hd
                have e2 : decide (y0 = x0) = true := decide_eq_true hd
                clear hd
                go_wp2_with fail
                go_quiet (fail)
                have CC := Lib.hid (below_drewN C9.out nq)
                go_wp2
                go_ret
                exact ⟨ret_bool HE.out.symm, CC.out⟩
              case neg =>
                have HE := Lib.hid (noneId_more HQ.out HN.out (by rw [← HY.out]; exact hd))
                have e1 : (y0 == x0) = false := by simpa using hd
                have e2 : decide (y0 = x0) = false := decide_eq_false hd
                clear hd
                go_wp2_with fail
                go_quiet (fail)
                have CC := Lib.hid (below_drewN C9.out nq)
                go_wp2
                go_roundw
                case rel => exact ⟨q + 1, by omega, by go_num, HE.out, CC.out⟩
                case measure => simp [intOf]; omega
            · obtain rfl : q = j := by omega
              have HN := Lib.hid (show ∀ p, p < q + 1 → openAt l p = true from fun p hp => by
                rcases Nat.lt_or_ge p q with h1 | h1
                · exact HA.out p h1
                · obtain rfl : p = q := by omega
                  rw [HS.out, HO.out, hno]
                  simp [dueB, P0.out, P1.out])
              have CC := Lib.hid c
              clear hno c
              go_wp2
              go_roundw
              case rel => exact ⟨q + 1, by omega, by go_num, HN.out, CC.out⟩
              case measure => simp [intOf]; omega
        case neg =>
          obtain ⟨k, hk⟩ : ∃ k, j = k + 1 := ⟨j - 1, by omega⟩
          have hkl : k < l.length := by omega
          obtain ⟨hd0, hd1⟩ := hc k hkl
          have ct0 := (c.cell (p := ⟨b, off + k * 2, none⟩) (show b < _ by omega)).trans hd0
          have ct1 := (c.cell (p := ⟨b, off + k * 2 + 1, none⟩) (show b < _ by omega)).trans hd1
          obtain ⟨y0, hy0⟩ : ∃ q, q = l[k].tid := ⟨_, rfl⟩
          obtain ⟨y1, hy1⟩ : ∃ q, q = l[k].due := ⟨_, rfl⟩
          rw [← hy0] at ct0
          rw [← hy1] at ct1
          have HY := Lib.hid (show l[k] = ⟨y0, y1⟩ by rw [hy0, hy1])
          have HCA := Lib.hid (show ordAt l j = timLess ⟨y0, y1⟩ ⟨x0, x1⟩ by
            unfold ordAt
            rw [tgetD HJ.out, HM.out, decide_eq_false hj0, Bool.false_or]
            have e9 : j - 1 = k := by omega
            rw [e9, tgetD hkl, HY.out])
          have k0' : (0 : Int) ≤ (k : Int) := by omega
          have k1' : (k : Int) < (n : Int) := by omega
          have hkn : k < n := by omega
          have ep : IntKind.i64.wrap ((j : Int) - 1) = (k : Int) := by rw [IntKind.wrap_i64]; omega
          have zz : decide ((j : Int) > 0) = true := decide_eq_true (by omega)
          have zy : decide (0 < (j : Int)) = true := decide_eq_true (by omega)
          have zx : decide (0 < j) = true := decide_eq_true (by omega)
          clear hmk hc c hk hj0 hd0 hd1 hy0 hy1 HY hkl
          cases p2 : ordAt l j
          case false =>
            have P2 := Lib.hid p2
            rw [HCA.out] at p2
            go_wp2_with fail
            refine wp_region_cls (fun v => v.cell? ⟨b, off + j * 2, none⟩ = some (.int .i64 x0) ∧ v.cell? ⟨b, off + j * 2 + 1, none⟩ = some (.int .i64 x1) ∧ v.cell? ⟨b, off + k * 2, none⟩ = some (.int .i64 y0) ∧ v.cell? ⟨b, off + k * 2 + 1, none⟩ = some (.int .i64 y1)) (by kernel_rfl) (by kernel_rfl) (fun v hv => ⟨(hv.cell (p := ⟨b, off + j * 2, none⟩) (lt_of_cell cs0)).trans cs0, (hv.cell (p := ⟨b, off + j * 2 + 1, none⟩) (lt_of_cell cs1)).trans cs1, (hv.cell (p := ⟨b, off + k * 2, none⟩) (lt_of_cell ct0)).trans ct0, (hv.cell (p := ⟨b, off + k * 2 + 1, none⟩) (lt_of_cell ct1)).trans ct1⟩) ?_
            intro CL HF HC
            repeat
              (first
                 | go_big_quiet_skip
                 | (go_big_quiet_want
                    go_big_quiet_op
                    first
                      | go_big_quiet_on
                      | (apply Exists.intro
                         refine ⟨fun v hv => ?_, ?_⟩
                         · obtain ⟨a0, a1, a2, a3⟩ := HF v hv
                           first
                             | (go_at_call 65; exact Calls.cls HC hv (sId_any x0 v) (congrArg Value.bool p0))
                             | (go_at_call 56; exact Calls.cls HC hv (sTime_anyB x1 v) (congrArg Value.bool p1))
                             | (go_at_call 66; exact Calls.cls HC hv (sDueLess_any y0 y1 x0 x1 v) (congrArg Value.bool p2))
                             | exact rfl
                             | (go_simp; exact rfl)
                             | (go_simp; exact ⟨rfl, hv⟩)
                         go_big_quiet_on)))
            refine wpQuiet_nil ?_
            intro w3 b3
            have CC := Lib.hid (C.out.trans (b3.mono C.out.size))
            go_wp2
            go_ret
            exact ⟨ret_bool (openB_step HJ.out (by rw [HS.out]; rw [P2.out]; simp)).symm, CC.out⟩
          case true =>
            have HO := Lib.hid p2
            rw [HCA.out] at p2
            go_wp2_with fail
            refine wp_region_cls (fun v => v.cell? ⟨b, off + j * 2, none⟩ = some (.int .i64 x0) ∧ v.cell? ⟨b, off + j * 2 + 1, none⟩ = some (.int .i64 x1) ∧ v.cell? ⟨b, off + k * 2, none⟩ = some (.int .i64 y0) ∧ v.cell? ⟨b, off + k * 2 + 1, none⟩ = some (.int .i64 y1)) (by kernel_rfl) (by kernel_rfl) (fun v hv => ⟨(hv.cell (p := ⟨b, off + j * 2, none⟩) (lt_of_cell cs0)).trans cs0, (hv.cell (p := ⟨b, off + j * 2 + 1, none⟩) (lt_of_cell cs1)).trans cs1, (hv.cell (p := ⟨b, off + k * 2, none⟩) (lt_of_cell ct0)).trans ct0, (hv.cell (p := ⟨b, off + k * 2 + 1, none⟩) (lt_of_cell ct1)).trans ct1⟩) ?_
            intro CL HF HC
            repeat
              (first
                 | go_big_quiet_skip
                 | (go_big_quiet_want
                    go_big_quiet_op
                    first
                      | go_big_quiet_on
                      | (apply Exists.intro
                         refine ⟨fun v hv => ?_, ?_⟩
                         · obtain ⟨a0, a1, a2, a3⟩ := HF v hv
                           first
                             | (go_at_call 65; exact Calls.cls HC hv (sId_any x0 v) (congrArg Value.bool p0))
                             | (go_at_call 56; exact Calls.cls HC hv (sTime_anyB x1 v) (congrArg Value.bool p1))
                             | (go_at_call 66; exact Calls.cls HC hv (sDueLess_any y0 y1 x0 x1 v) (congrArg Value.bool p2))
                             | exact rfl
                             | (go_simp; exact rfl)
                             | (go_simp; exact ⟨rfl, hv⟩)
                         go_big_quiet_on)))
            refine wpQuiet_nil ?_
            intro w3 b3
            have CC := Lib.hid (C.out.trans (b3.mono C.out.size))
            have CB := Lib.hid CC.out
            clear CC b3 cs0 cs1
            go_wp2
            go_loopw [4] (fun u wr => ∃ q : Nat, q ≤ j ∧ u = .int .i64 (q : Int) ∧ noneId l q x0 = true ∧ Below w.heap.size w wr) (fun u _ => j - (intOf u).toNat)
            case atStart => exact ⟨0, Nat.zero_le _, rfl, noneId_zero _ _, CB.out⟩
            case round =>
              obtain ⟨q, hq, rfl, hno, c⟩ := hrel
              clear CB
              by_cases hlq : q < j
              · have hql : q < l.length := by have := HJ.out; omega
                obtain ⟨hd0, _⟩ := HEL.out q hql
                obtain ⟨hf0, _⟩ := HEL.out j HJ.out
                have ct0 := (c.cell (p := ⟨b, off + q * 2, none⟩) (show b < _ by omega)).trans hd0
                have cs0 := (c.cell (p := ⟨b, off + j * 2, none⟩) (show b < _ by omega)).trans hf0
                obtain ⟨y0, hy0⟩ : ∃ p, p = l[q].tid := ⟨_, rfl⟩
                rw [← hy0] at ct0
                rw [HM.out] at cs0
                have HY := Lib.hid hy0
                have HQ := Lib.hid hql
                have HN := Lib.hid hno
                have hqn : q < n := by omega
                have C9 := Lib.hid c
                clear hd0 hf0 hy0 hno c
                by_cases hd : y0 = x0
                case pos =>
                  have HE := Lib.hid (show openB l = false from openB_step HJ.out (by rw [HS.out, noneId_bad HQ.out hlq (by rw [← HY.out]; exact hd)]; simp))
                  have e1 : (y0 == x0) = true := by simpa using hd
                  have e2 : decide (y0 = x0) = true := decide_eq_true hd
                  clear hd
                  go_wp2_with fail
                  go_quiet (fail)
                  have CC := Lib.hid (below_drewN C9.out nq)
                  go_wp2
                  go_ret
                  exact ⟨ret_bool HE.out.symm, CC.out⟩
                case neg =>
                  have HE := Lib.hid (noneId_more HQ.out HN.out (by rw [← HY.out]; exact hd))
                  have e1 : (y0 == x0) = false := by simpa using hd
                  have e2 : decide (y0 = x0) = false := decide_eq_false hd
                  clear hd
                  go_wp2_with fail
                  go_quiet (fail)
                  have CC := Lib.hid (below_drewN C9.out nq)
                  go_wp2
                  go_roundw
                  case rel => exact ⟨q + 1, by omega, by go_num, HE.out, CC.out⟩
                  case measure => simp [intOf]; omega
              · obtain rfl : q = j := by omega
                have HN := Lib.hid (show ∀ p, p < q + 1 → openAt l p = true from fun p hp => by
                  rcases Nat.lt_or_ge p q with h1 | h1
                  · exact HA.out p h1
                  · obtain rfl : p = q := by omega
                    rw [HS.out, HO.out, hno]
                    simp [dueB, P0.out, P1.out])
                have CC := Lib.hid c
                clear hno c
                go_wp2
                go_roundw
                case rel => exact ⟨q + 1, by omega, by go_num, HN.out, CC.out⟩
                case measure => simp [intOf]; omega
      · have HD := Lib.hid (show openB l = true from openB_end (by have := HL.out; omega) fun q hq => hall q (by have := HL.out; omega))
        have CC := Lib.hid c
        clear hall hel c
        go_wp2
        go_ret
        exact ⟨ret_bool HD.out.symm, CC.out⟩

end Go.Proofs.Ytepnghjmpbfmcaa

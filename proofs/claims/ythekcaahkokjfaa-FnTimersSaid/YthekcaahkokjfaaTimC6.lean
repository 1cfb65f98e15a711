/-
  Chapter 6: where an id lies, and validity, of the model (by program, wip/gen/gentimf.py).
-/
import Derived.Test.YthekcaahkokjfaaTimC4
import Derived.RegionTactic
import Derived.BigQuiet
namespace Go.Proofs.Ythekcaahkokjfaa
set_option maxRecDepth 100000
open Go.RowKit

set_option maxHeartbeats 3200000 in
theorem sAt_any (A : Option Addr) (j cc : Nat) (l : List TimerM) (x : Int) (w : World) (hj : j ≤ l.length) (hn : j ≤ 1048577)
    (hA : 0 < j → ∃ b off, A = some ⟨b, off, none⟩ ∧ ∀ q (hq : q < l.length), w.cell? ⟨b, off + q * 2, none⟩ = some (.int .i64 l[q].tid)) :
    Calls Try.prog 68 #[.slice A j cc, .int .i64 x] w fun e w' => e = .returned (.int .i64 (atId (l.take j) x)) ∧ w = w' := by
  go_enter Try.func68, Try.ntmps68
  go_wp2
  go_loop [5] (fun i => ∃ q : Nat, q ≤ j ∧ i = .int .i64 (q : Int) ∧ noneId l q x = true) (fun i => j - (intOf i).toNat)
  case atStart => exact ⟨0, Nat.zero_le _, rfl, noneId_zero _ _⟩
  case round =>
    obtain ⟨q, hq, rfl, hno⟩ := hrel
    by_cases hlt : q < j
    · obtain ⟨b, off, rfl, hc⟩ := hA (by omega)
      have hql : q < l.length := by omega
      have cs0 := hc q hql
      obtain ⟨y, hy⟩ : ∃ p : Int, p = (l[q]'hql).tid := ⟨_, rfl⟩
      rw [← hy] at cs0
      have HN := Lib.hid hno
      clear hc hno hA
      by_cases hd : y = x
      case pos =>
        have HE := Lib.hid (atT_is hql hlt HN.out (by rw [← hy]; exact hd))
        subst hd
        clear hy
        go_wp2
        go_ret
        exact ⟨ret_i64 HE.out.symm, rfl⟩
      case neg =>
        have HE := Lib.hid (noneId_more hql HN.out (by rw [← hy]; exact hd))
        clear hy
        go_wp2
        go_round
        case rel => exact ⟨q + 1, by omega, by go_num, HE.out⟩
        case measure => simp [intOf]; omega
    · have e : q = j := by omega
      have HE := Lib.hid (atT_none (l := l) (i := x) (j := j) (by rw [← e]; exact hno))
      clear hA hno
      go_wp2
      go_ret
      exact ⟨ret_i64 HE.out.symm, rfl⟩

set_option maxHeartbeats 12800000 in
theorem sTimers_any (A : Option Addr) (n cc B : Nat) (l : List TimerM) (w : World) (h : Rd w B [timerD l] [.slice A n cc]) (hB : B ≤ w.heap.size) (hs : timerSz l ≤ 1048577) :
    Calls Try.prog 42 #[.slice A n cc] w fun e w' => e = .returned (.bool (timersB l)) ∧ Below w.heap.size w w' := by
  obtain ⟨_, _, _, e, hl, hnc, hcm, hel⟩ := h.timers
  injection e with e1 e2 e3
  subst e1 e2 e3
  have HL := Lib.hid hl
  have hn : n ≤ 1048577 := by unfold timerSz at hs; omega
  unfold maxLen at hcm
  clear h hl hs
  by_cases h16 : 16 < n
  case pos =>
    have HD := Lib.hid (timersB_long (l := l) (by have := HL.out; omega))
    clear hel
    go_enter Try.func42, Try.ntmps42
    go_wp2
    go_ret
    exact ⟨ret_bool HD.out.symm, Below.refl _ _⟩
  case neg =>
    go_enter Try.func42, Try.ntmps42
    go_wp2
    go_loopw [3] (fun i wr => ∃ j : Nat, j ≤ n ∧ i = .int .i64 (j : Int) ∧ (∀ q, q < j → stepAt l q = true) ∧ Below w.heap.size w wr) (fun i _ => n - (intOf i).toNat)
    case atStart => exact ⟨0, Nat.zero_le _, rfl, fun q hq => absurd hq (by omega), Below.refl _ _⟩
    case round =>
      obtain ⟨j, hj, rfl, hall, c⟩ := hrel
      by_cases hlt : j < n
      · obtain ⟨b, off, rfl, hb, hc⟩ := hel (by omega)
        have hjl : j < l.length := by have := HL.out; omega
        obtain ⟨hc0, hc1⟩ := hc j hjl
        have cs0 := (c.cell (p := ⟨b, off + j * 2, none⟩) (show b < _ by omega)).trans hc0
        have cs1 := (c.cell (p := ⟨b, off + j * 2 + 1, none⟩) (show b < _ by omega)).trans hc1
        obtain ⟨x0, hx0⟩ : ∃ q, q = l[j].tid := ⟨_, rfl⟩
        obtain ⟨x1, hx1⟩ : ∃ q, q = l[j].due := ⟨_, rfl⟩
        rw [← hx0] at cs0
        rw [← hx1] at cs1
        have hmk : l[j] = ⟨x0, x1⟩ := by rw [hx0, hx1]
        have HS := Lib.hid (show stepAt l j = (timerB ⟨x0, x1⟩ && (ordAt l j && noneId l j x0)) by rw [stepAt_eq hjl, hmk])
        have HA := Lib.hid hall
        have HJ := Lib.hid hjl
        have C := Lib.hid c
        have zb := c.size
        have hjc : (j : Int) ≤ (cc : Int) := by omega
        have HC0 := Lib.hid (show ∀ v, Below wr.heap.size wr v → ∀ q (hq : q < l.length), v.cell? ⟨b, off + q * 2, none⟩ = some (.int .i64 l[q].tid) from fun v hv q hq => (hv.cell (p := ⟨b, off + q * 2, none⟩) (show b < _ by omega)).trans ((c.cell (p := ⟨b, off + q * 2, none⟩) (show b < _ by omega)).trans (hc q hq).1))
        have hjn : j ≤ l.length := Nat.le_of_lt hjl
        have hj7 : j ≤ 1048577 := by omega
        have AT := Lib.hid (show decide (0 ≤ atId (l.take j) x0) = !noneId l j x0 from atId_take l j x0)
        have TB := Lib.hid (show timerB ⟨x0, x1⟩ = ((decide (0 ≤ x0) && decide (x0 ≤ 99)) && timeB x1) by unfold timerB; simp [Bool.and_assoc])
        cases p1 : (decide (0 ≤ x0) && decide (x0 ≤ 99))
        case false =>
          clear hx0 hx1 hmk hc hc0 hc1 hel hall c
          go_wp2_with fail
          refine wp_region_cls (fun v => v.cell? ⟨b, off + j * 2, none⟩ = some (.int .i64 x0) ∧ v.cell? ⟨b, off + j * 2 + 1, none⟩ = some (.int .i64 x1) ∧ Below wr.heap.size wr v) (by kernel_rfl) (by kernel_rfl) (fun v hv => ⟨(hv.cell (p := ⟨b, off + j * 2, none⟩) (lt_of_cell cs0)).trans cs0, (hv.cell (p := ⟨b, off + j * 2 + 1, none⟩) (lt_of_cell cs1)).trans cs1, hv⟩) ?_
          intro CL HF HC
          repeat
            (first
               | go_big_quiet_skip
               | (go_big_quiet_want
                  go_big_quiet_op
                  first
                    | go_big_quiet_on
                    | (apply Exists.intro
                       refine ⟨fun v hv => ?_, ?_⟩
                       · obtain ⟨a0, a1, aB⟩ := HF v hv
                         first
                           | (go_at_call 62; exact Calls.cls HC hv ((in_any x0 0 99 v).mono fun _ _ ⟨h1, h2⟩ => ⟨h1, by rw [← h2]; exact Below.refl _ _⟩) (congrArg Value.bool p1))
                           | exact rfl
                           | (go_simp; exact rfl)
                           | (go_simp; exact ⟨rfl, hv⟩)
                       go_big_quiet_on)))
          refine wpQuiet_nil ?_
          intro w3 b3
          have CC := Lib.hid (C.out.trans (b3.mono C.out.size))
          go_wp2
          go_ret
          exact ⟨ret_bool (timersB_step HJ.out (by rw [HS.out]; simp [TB.out, p1])).symm, CC.out⟩
        case true =>
        cases p2 : timeB x1
        case false =>
          clear hx0 hx1 hmk hc hc0 hc1 hel hall c
          go_wp2_with fail
          refine wp_region_cls (fun v => v.cell? ⟨b, off + j * 2, none⟩ = some (.int .i64 x0) ∧ v.cell? ⟨b, off + j * 2 + 1, none⟩ = some (.int .i64 x1) ∧ Below wr.heap.size wr v) (by kernel_rfl) (by kernel_rfl) (fun v hv => ⟨(hv.cell (p := ⟨b, off + j * 2, none⟩) (lt_of_cell cs0)).trans cs0, (hv.cell (p := ⟨b, off + j * 2 + 1, none⟩) (lt_of_cell cs1)).trans cs1, hv⟩) ?_
          intro CL HF HC
          repeat
            (first
               | go_big_quiet_skip
               | (go_big_quiet_want
                  go_big_quiet_op
                  first
                    | go_big_quiet_on
                    | (apply Exists.intro
                       refine ⟨fun v hv => ?_, ?_⟩
                       · obtain ⟨a0, a1, aB⟩ := HF v hv
                         first
                           | (go_at_call 62; exact Calls.cls HC hv ((in_any x0 0 99 v).mono fun _ _ ⟨h1, h2⟩ => ⟨h1, by rw [← h2]; exact Below.refl _ _⟩) (congrArg Value.bool p1))
                           | (go_at_call 29; exact Calls.cls HC hv ((sTime_any x1 v).mono fun _ _ ⟨h1, h2⟩ => ⟨h1, by rw [← h2]; exact Below.refl _ _⟩) (congrArg Value.bool p2))
                           | exact rfl
                           | (go_simp; exact rfl)
                           | (go_simp; exact ⟨rfl, hv⟩)
                       go_big_quiet_on)))
          refine wpQuiet_nil ?_
          intro w3 b3
          have CC := Lib.hid (C.out.trans (b3.mono C.out.size))
          go_wp2
          go_ret
          exact ⟨ret_bool (timersB_step HJ.out (by rw [HS.out]; simp [TB.out, p1, p2])).symm, CC.out⟩
        case true =>
        by_cases hj0 : j = 0
        case pos =>
          subst hj0
          have hd : decide (0 < 0) = false := rfl
          have p4 : decide (0 ≤ atId (l.take 0) x0) = false := by rw [AT.out, noneId_zero]; rfl
          have cs0' : wr.cell? ⟨b, off, none⟩ = some (.int .i64 x0) := by simpa using cs0
          have cs1' : wr.cell? ⟨b, off + 1, none⟩ = some (.int .i64 x1) := by simpa using cs1
          clear hx0 hx1 hmk hc hc0 hc1 hel hall c cs0 cs1
          go_wp2_with fail
          refine wp_region_cls (fun v => v.cell? ⟨b, off, none⟩ = some (.int .i64 x0) ∧ v.cell? ⟨b, off + 1, none⟩ = some (.int .i64 x1) ∧ Below wr.heap.size wr v) (by kernel_rfl) (by kernel_rfl) (fun v hv => ⟨(hv.cell (p := ⟨b, off, none⟩) (lt_of_cell cs0')).trans cs0', (hv.cell (p := ⟨b, off + 1, none⟩) (lt_of_cell cs1')).trans cs1', hv⟩) ?_
          intro CL HF HC
          repeat
            (first
               | go_big_quiet_skip
               | (go_big_quiet_want
                  go_big_quiet_op
                  first
                    | go_big_quiet_on
                    | (apply Exists.intro
                       refine ⟨fun v hv => ?_, ?_⟩
                       · obtain ⟨a0, a1, aB⟩ := HF v hv
                         first
                           | (go_at_call 62; exact Calls.cls HC hv ((in_any x0 0 99 v).mono fun _ _ ⟨h1, h2⟩ => ⟨h1, by rw [← h2]; exact Below.refl _ _⟩) (congrArg Value.bool p1))
                           | (go_at_call 29; exact Calls.cls HC hv ((sTime_any x1 v).mono fun _ _ ⟨h1, h2⟩ => ⟨h1, by rw [← h2]; exact Below.refl _ _⟩) (congrArg Value.bool p2))
                           | (go_at_call 68; exact Calls.cls HC hv ((sAt_any (some ⟨b, off, none⟩) 0 cc l x0 v hjn hj7 (fun _ => ⟨b, off, rfl, HC0.out v aB⟩)).mono fun _ _ ⟨h1, h2⟩ => ⟨h1, by rw [← h2]; exact Below.refl _ _⟩) rfl)
                           | exact rfl
                           | (go_simp; exact rfl)
                           | (go_simp; exact ⟨rfl, hv⟩)
                       go_big_quiet_on)))
          refine wpQuiet_nil ?_
          intro w3 b3
          have CC := Lib.hid (C.out.trans (b3.mono C.out.size))
          have HN := Lib.hid (show ∀ q, q < 0 + 1 → stepAt l q = true from fun q hq => by
            rcases Nat.lt_or_ge q (0) with h1 | h1
            · exact HA.out q h1
            · have : q = 0 := by omega
              subst this
              rw [HS.out]
              simp [TB.out, p1, p2, ordAt_zero, noneId_zero])
          go_wp2
          go_roundw
          case rel => exact ⟨0 + 1, by omega, by go_num, HN.out, CC.out⟩
          case measure => simp [intOf]; omega
        case neg =>
        obtain ⟨k, rfl⟩ : ∃ k, j = k + 1 := ⟨j - 1, by omega⟩
        have hkl : k < l.length := by omega
        obtain ⟨hd0, hd1⟩ := hc k hkl
        have ct0 := (c.cell (p := ⟨b, off + k * 2, none⟩) (show b < _ by omega)).trans hd0
        have ct1 := (c.cell (p := ⟨b, off + k * 2 + 1, none⟩) (show b < _ by omega)).trans hd1
        obtain ⟨y0, hy0⟩ : ∃ q, q = l[k].tid := ⟨_, rfl⟩
        obtain ⟨y1, hy1⟩ : ∃ q, q = l[k].due := ⟨_, rfl⟩
        rw [← hy0] at ct0
        rw [← hy1] at ct1
        have HCA := Lib.hid (show ordAt l (k + 1) = timLess ⟨y0, y1⟩ ⟨x0, x1⟩ by
          unfold ordAt
          rw [Nat.add_sub_cancel, tgetD hjl, tgetD hkl, hmk, show l[k] = ⟨y0, y1⟩ by rw [hy0, hy1], decide_eq_false (by omega), Bool.false_or])
        have k0' : (0 : Int) ≤ (k : Int) := by omega
        have k1' : (k : Int) < (n : Int) := by omega
        have ep : IntKind.i64.wrap (k : Int) = (k : Int) := by rw [IntKind.wrap_i64]; omega
        clear hx0 hx1 hmk hc hc0 hc1 hel hall c hj0 hy0 hy1 hd0 hd1
        cases p3 : timLess ⟨y0, y1⟩ ⟨x0, x1⟩
        case false =>
          go_wp2_with fail
          refine wp_region_cls (fun v => v.cell? ⟨b, off + (k + 1) * 2, none⟩ = some (.int .i64 x0) ∧ v.cell? ⟨b, off + (k + 1) * 2 + 1, none⟩ = some (.int .i64 x1) ∧ v.cell? ⟨b, off + k * 2, none⟩ = some (.int .i64 y0) ∧ v.cell? ⟨b, off + k * 2 + 1, none⟩ = some (.int .i64 y1) ∧ Below wr.heap.size wr v) (by kernel_rfl) (by kernel_rfl) (fun v hv => ⟨(hv.cell (p := ⟨b, off + (k + 1) * 2, none⟩) (lt_of_cell cs0)).trans cs0, (hv.cell (p := ⟨b, off + (k + 1) * 2 + 1, none⟩) (lt_of_cell cs1)).trans cs1, (hv.cell (p := ⟨b, off + k * 2, none⟩) (lt_of_cell ct0)).trans ct0, (hv.cell (p := ⟨b, off + k * 2 + 1, none⟩) (lt_of_cell ct1)).trans ct1, hv⟩) ?_
          intro CL HF HC
          repeat
            (first
               | go_big_quiet_skip
               | (go_big_quiet_want
                  go_big_quiet_op
                  first
                    | go_big_quiet_on
                    | (apply Exists.intro
                       refine ⟨fun v hv => ?_, ?_⟩
                       · obtain ⟨a0, a1, a2, a3, aB⟩ := HF v hv
                         first
                           | (go_at_call 62; exact Calls.cls HC hv ((in_any x0 0 99 v).mono fun _ _ ⟨h1, h2⟩ => ⟨h1, by rw [← h2]; exact Below.refl _ _⟩) (congrArg Value.bool p1))
                           | (go_at_call 29; exact Calls.cls HC hv ((sTime_any x1 v).mono fun _ _ ⟨h1, h2⟩ => ⟨h1, by rw [← h2]; exact Below.refl _ _⟩) (congrArg Value.bool p2))
                           | (go_at_call 67; exact Calls.cls HC hv (sTLess_any y0 y1 x0 x1 v) (congrArg Value.bool p3))
                           | exact rfl
                           | (go_simp; exact rfl)
                           | (go_simp; exact ⟨rfl, hv⟩)
                       go_big_quiet_on)))
          refine wpQuiet_nil ?_
          intro w3 b3
          have CC := Lib.hid (C.out.trans (b3.mono C.out.size))
          go_wp2
          go_ret
          exact ⟨ret_bool (timersB_step HJ.out (by rw [HS.out]; simp [TB.out, p1, p2, HCA.out, p3])).symm, CC.out⟩
        case true =>
        cases p5 : noneId l (k + 1) x0
        case false =>
          have p4 : decide (0 ≤ atId (l.take (k + 1)) x0) = true := by rw [AT.out, p5]; rfl
          go_wp2_with fail
          refine wp_region_cls (fun v => v.cell? ⟨b, off + (k + 1) * 2, none⟩ = some (.int .i64 x0) ∧ v.cell? ⟨b, off + (k + 1) * 2 + 1, none⟩ = some (.int .i64 x1) ∧ v.cell? ⟨b, off + k * 2, none⟩ = some (.int .i64 y0) ∧ v.cell? ⟨b, off + k * 2 + 1, none⟩ = some (.int .i64 y1) ∧ Below wr.heap.size wr v) (by kernel_rfl) (by kernel_rfl) (fun v hv => ⟨(hv.cell (p := ⟨b, off + (k + 1) * 2, none⟩) (lt_of_cell cs0)).trans cs0, (hv.cell (p := ⟨b, off + (k + 1) * 2 + 1, none⟩) (lt_of_cell cs1)).trans cs1, (hv.cell (p := ⟨b, off + k * 2, none⟩) (lt_of_cell ct0)).trans ct0, (hv.cell (p := ⟨b, off + k * 2 + 1, none⟩) (lt_of_cell ct1)).trans ct1, hv⟩) ?_
          intro CL HF HC
          repeat
            (first
               | go_big_quiet_skip
               | (go_big_quiet_want
                  go_big_quiet_op
                  first
                    | go_big_quiet_on
                    | (apply Exists.intro
                       refine ⟨fun v hv => ?_, ?_⟩
                       · obtain ⟨a0, a1, a2, a3, aB⟩ := HF v hv
                         first
                           | (go_at_call 62; exact Calls.cls HC hv ((in_any x0 0 99 v).mono fun _ _ ⟨h1, h2⟩ => ⟨h1, by rw [← h2]; exact Below.refl _ _⟩) (congrArg Value.bool p1))
                           | (go_at_call 29; exact Calls.cls HC hv ((sTime_any x1 v).mono fun _ _ ⟨h1, h2⟩ => ⟨h1, by rw [← h2]; exact Below.refl _ _⟩) (congrArg Value.bool p2))
                           | (go_at_call 67; exact Calls.cls HC hv (sTLess_any y0 y1 x0 x1 v) (congrArg Value.bool p3))
                           | (go_at_call 68; exact Calls.cls HC hv ((sAt_any (some ⟨b, off, none⟩) (k + 1) cc l x0 v hjn hj7 (fun _ => ⟨b, off, rfl, HC0.out v aB⟩)).mono fun _ _ ⟨h1, h2⟩ => ⟨h1, by rw [← h2]; exact Below.refl _ _⟩) rfl)
                           | exact rfl
                           | (go_simp; exact rfl)
                           | (go_simp; exact ⟨rfl, hv⟩)
                       go_big_quiet_on)))
          refine wpQuiet_nil ?_
          intro w3 b3
          have CC := Lib.hid (C.out.trans (b3.mono C.out.size))
          go_wp2
          go_ret
          exact ⟨ret_bool (timersB_step HJ.out (by rw [HS.out]; simp [TB.out, p1, p2, HCA.out, p3, p5])).symm, CC.out⟩
        case true =>
          have p4 : decide (0 ≤ atId (l.take (k + 1)) x0) = false := by rw [AT.out, p5]; rfl
          go_wp2_with fail
          refine wp_region_cls (fun v => v.cell? ⟨b, off + (k + 1) * 2, none⟩ = some (.int .i64 x0) ∧ v.cell? ⟨b, off + (k + 1) * 2 + 1, none⟩ = some (.int .i64 x1) ∧ v.cell? ⟨b, off + k * 2, none⟩ = some (.int .i64 y0) ∧ v.cell? ⟨b, off + k * 2 + 1, none⟩ = some (.int .i64 y1) ∧ Below wr.heap.size wr v) (by kernel_rfl) (by kernel_rfl) (fun v hv => ⟨(hv.cell (p := ⟨b, off + (k + 1) * 2, none⟩) (lt_of_cell cs0)).trans cs0, (hv.cell (p := ⟨b, off + (k + 1) * 2 + 1, none⟩) (lt_of_cell cs1)).trans cs1, (hv.cell (p := ⟨b, off + k * 2, none⟩) (lt_of_cell ct0)).trans ct0, (hv.cell (p := ⟨b, off + k * 2 + 1, none⟩) (lt_of_cell ct1)).trans ct1, hv⟩) ?_
          intro CL HF HC
          repeat
            (first
               | go_big_quiet_skip
               | (go_big_quiet_want
                  go_big_quiet_op
                  first
                    | go_big_quiet_on
                    | (apply Exists.intro
                       refine ⟨fun v hv => ?_, ?_⟩
                       · obtain ⟨a0, a1, a2, a3, aB⟩ := HF v hv
                         first
                           | (go_at_call 62; exact Calls.cls HC hv ((in_any x0 0 99 v).mono fun _ _ ⟨h1, h2⟩ => ⟨h1, by rw [← h2]; exact Below.refl _ _⟩) (congrArg Value.bool p1))
                           | (go_at_call 29; exact Calls.cls HC hv ((sTime_any x1 v).mono fun _ _ ⟨h1, h2⟩ => ⟨h1, by rw [← h2]; exact Below.refl _ _⟩) (congrArg Value.bool p2))
                           | (go_at_call 67; exact Calls.cls HC hv (sTLess_any y0 y1 x0 x1 v) (congrArg Value.bool p3))
                           | (go_at_call 68; exact Calls.cls HC hv ((sAt_any (some ⟨b, off, none⟩) (k + 1) cc l x0 v hjn hj7 (fun _ => ⟨b, off, rfl, HC0.out v aB⟩)).mono fun _ _ ⟨h1, h2⟩ => ⟨h1, by rw [← h2]; exact Below.refl _ _⟩) rfl)
                           | exact rfl
                           | (go_simp; exact rfl)
                           | (go_simp; exact ⟨rfl, hv⟩)
                       go_big_quiet_on)))
          refine wpQuiet_nil ?_
          intro w3 b3
          have CC := Lib.hid (C.out.trans (b3.mono C.out.size))
          have HN := Lib.hid (show ∀ q, q < k + 1 + 1 → stepAt l q = true from fun q hq => by
            rcases Nat.lt_or_ge q (k + 1) with h1 | h1
            · exact HA.out q h1
            · have : q = k + 1 := by omega
              subst this
              rw [HS.out]
              simp [TB.out, p1, p2, HCA.out, p3, p5])
          go_wp2
          go_roundw
          case rel => exact ⟨k + 1 + 1, by omega, by go_num, HN.out, CC.out⟩
          case measure => simp [intOf]; omega
      · have HD := Lib.hid (timersB_end (l := l) (by have := HL.out; omega) (fun q hq => hall q (by have := HL.out; omega)))
        have CC := Lib.hid c
        clear hall hel c
        go_wp2
        go_ret
        exact ⟨ret_bool HD.out.symm, CC.out⟩

end Go.Proofs.Ythekcaahkokjfaa

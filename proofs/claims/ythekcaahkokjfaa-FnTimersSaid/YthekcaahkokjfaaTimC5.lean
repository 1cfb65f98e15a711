/-
  Chapter 6: timers with keys of their own, and validity, of the program (by program, wip/gen/gentime.py).
-/
import Derived.Test.YthekcaahkokjfaaTimC4
import Derived.RegionTactic
import Derived.BigQuiet
import Derived.Laws.EntriesVeiled
namespace Go.Proofs.Ythekcaahkokjfaa
set_option maxRecDepth 100000
open Go.RowKit

set_option maxHeartbeats 6400000 in
theorem iDistinct_any (A : Option Addr) (n cc B : Nat) (l : List TimerM) (w : World) (h : Rd w B [timerD l] [.slice A n cc]) (hB : B ≤ w.heap.size) (hn : n ≤ 1048577) :
    Calls Try.prog 61 #[.agg #[.slice A n cc, .func (.func 72) #[] #[], .func (.func 73) #[] #[]]] w fun e w' => e = .returned (.bool (disB l)) ∧ Below w.heap.size w w' := by
  obtain ⟨_, _, _, e, hl, hnc, hcm, hel⟩ := h.timers
  injection e with e1 e2 e3
  subst e1 e2 e3
  have HL := Lib.hid hl
  unfold maxLen at hcm
  clear h hl
  have S0 := Lib.hid ((Sep.nil w w.heap.size).boxAt (Nat.le_refl _) w.heap.size rfl #[.slice A n cc, .func (.func 72) #[] #[], .func (.func 73) #[] #[]] 60)
  have B0 := Lib.hid ((Below.refl w.heap.size w).alloc (Nat.le_refl _) (.cells #[.slice A n cc, .func (.func 72) #[] #[], .func (.func 73) #[] #[]] 60))
  go_enter Try.func61, Try.ntmps61
  go_wp2
  go_loopw [10] (fun i wr => ∃ j : Nat, j ≤ n ∧ i = .int .i64 (j : Int) ∧ (∀ q, q < j → disAt l q = true) ∧ Sep wr w.heap.size [.blk w.heap.size #[.slice A n cc, .func (.func 72) #[] #[], .func (.func 73) #[] #[]] 60] ∧ Below w.heap.size w wr) (fun i _ => n - (intOf i).toNat)
  case atStart => exact ⟨0, Nat.zero_le _, rfl, fun q hq => absurd hq (by omega), S0.out, B0.out⟩
  case round =>
    obtain ⟨j, hj, rfl, hall, S, c⟩ := hrel
    clear S0 B0
    rename World => wo
    by_cases hlt : j < n
    · obtain ⟨b, off, rfl, hb, hc⟩ := hel (by omega)
      have hjl : j < l.length := by have := HL.out; omega
      obtain ⟨hc0, hc1⟩ := hc j hjl
      have cs0 := (c.cell (p := ⟨b, off + j * 2, none⟩) (show b < _ by omega)).trans hc0
      have cs1 := (c.cell (p := ⟨b, off + j * 2 + 1, none⟩) (show b < _ by omega)).trans hc1
      obtain ⟨x0, hx0⟩ : ∃ q, q = l[j].tid := ⟨_, rfl⟩
      obtain ⟨x1, hx1⟩ : ∃ q, q = l[j].due := ⟨_, rfl⟩
      rw [← hx0] at cs0
      rw [← hx1] at cs1
      have hmk : l[j] = ⟨x0, x1⟩ := by rw [hx0, hx1]
      have zb := c.size
      have k0 : wo.cell? ⟨w.heap.size, 0, none⟩ = some (.slice (some ⟨b, off, none⟩) n cc) := (S.at_ 0 rfl).cell 0
      have S2 := S.boxAt c.size wo.heap.size rfl #[.int .i64 x0, .int .i64 x1] 64
      have c2 := c.alloc c.size (.cells #[.int .i64 x0, .int .i64 x1] 64)
      have SH := Lib.hid S2
      have C2 := Lib.hid c2
      have HA := Lib.hid hall
      have HC := Lib.hid hc
      have HD := Lib.hid (show disAt l j = noneId l j x0 by rw [disAt_eq hjl, hmk])
      have HJ := Lib.hid hjl
      have hjc : (j : Int) ≤ (cc : Int) := by omega
      have k1 : (wo.alloc (.cells #[.int .i64 x0, .int .i64 x1] 64)).cell? ⟨w.heap.size, 0, none⟩ = some (.slice (some ⟨b, off, none⟩) n cc) := (S2.at_ 1 rfl).cell 0
      clear hx0 hx1 hmk hc hc0 hc1 hel hall c S c2 S2 hjl
      go_wp2
      go_loopw [20] (fun i wr => ∃ q : Nat, q ≤ j ∧ i = .int .i64 (q : Int) ∧ noneId l q x0 = true ∧ Sep wr w.heap.size [.blk wo.heap.size #[.int .i64 x0, .int .i64 x1] 64, .blk w.heap.size #[.slice (some ⟨b, off, none⟩) n cc, .func (.func 72) #[] #[], .func (.func 73) #[] #[]] 60] ∧ Below w.heap.size w wr) (fun i _ => j - (intOf i).toNat)
      case atStart => exact ⟨0, Nat.zero_le _, rfl, noneId_zero _ _, SH.out, C2.out⟩
      case round =>
        obtain ⟨q, hq, rfl, hno, S, c⟩ := hrel
        clear SH C2 k0 k1 cs0 cs1
        by_cases hlq : q < j
        · have hql : q < l.length := by have := HJ.out; omega
          obtain ⟨hd0, hd1⟩ := HC.out q hql
          have ct0 := (c.cell (p := ⟨b, off + q * 2, none⟩) (show b < _ by omega)).trans hd0
          have ct1 := (c.cell (p := ⟨b, off + q * 2 + 1, none⟩) (show b < _ by omega)).trans hd1
          obtain ⟨y0, hy0⟩ : ∃ p, p = l[q].tid := ⟨_, rfl⟩
          obtain ⟨y1, hy1⟩ : ∃ p, p = l[q].due := ⟨_, rfl⟩
          rw [← hy0] at ct0
          rw [← hy1] at ct1
          have HY := Lib.hid hy0
          have HQ := Lib.hid hql
          have HN := Lib.hid hno
          have zv := c.size
          have S2 := S.boxAt c.size wr.heap.size rfl #[.int .i64 y0, .int .i64 y1] 64
          have c2 := c.alloc c.size (.cells #[.int .i64 y0, .int .i64 y1] 64)
          have SH := Lib.hid S2
          have C2 := Lib.hid c2
          clear hd0 hd1 hy0 hy1 hno c S c2 S2
          go_wp2_with fail
          generalize wr.alloc (.cells #[.int .i64 y0, .int .i64 y1] 64) = w1 at *
          clear ct0 ct1
          have d0 : w1.cell? ⟨wr.heap.size, 0, none⟩ = some (.int .i64 y0) := (SH.out.at_ 0 rfl).cell 0
          have d1 : w1.cell? ⟨wr.heap.size, 1, none⟩ = some (.int .i64 y1) := (SH.out.at_ 0 rfl).cell 1
          have e0 : w1.cell? ⟨wo.heap.size, 0, none⟩ = some (.int .i64 x0) := (SH.out.at_ 1 rfl).cell 0
          have e1 : w1.cell? ⟨wo.heap.size, 1, none⟩ = some (.int .i64 x1) := (SH.out.at_ 1 rfl).cell 1
          have e2 : w1.cell? ⟨w.heap.size, 1, none⟩ = some (.func (.func 72) #[] #[]) := (SH.out.at_ 2 rfl).cell 1
          refine wp_region_cls (fun v => v.cell? ⟨wr.heap.size, 0, none⟩ = some (.int .i64 y0) ∧ v.cell? ⟨wr.heap.size, 1, none⟩ = some (.int .i64 y1) ∧ v.cell? ⟨wo.heap.size, 0, none⟩ = some (.int .i64 x0) ∧ v.cell? ⟨wo.heap.size, 1, none⟩ = some (.int .i64 x1) ∧ v.cell? ⟨w.heap.size, 1, none⟩ = some (.func (.func 72) #[] #[])) (by kernel_rfl) (by kernel_rfl) (fun v hv => ⟨(hv.cell (p := ⟨wr.heap.size, 0, none⟩) (lt_of_cell d0)).trans d0, (hv.cell (p := ⟨wr.heap.size, 1, none⟩) (lt_of_cell d1)).trans d1, (hv.cell (p := ⟨wo.heap.size, 0, none⟩) (lt_of_cell e0)).trans e0, (hv.cell (p := ⟨wo.heap.size, 1, none⟩) (lt_of_cell e1)).trans e1, (hv.cell (p := ⟨w.heap.size, 1, none⟩) (lt_of_cell e2)).trans e2⟩) ?_
          intro CL HF HC1
          repeat
            (refine wpQuiet_step (fun K hK => ?_)
             go_simp
             first
               | (refine hK _ ?_; clear hK K)
               | (apply Exists.intro
                  refine ⟨fun v hv => ?_, hK _ ?_⟩
                  · obtain ⟨a0, a1, a2, a3, a4⟩ := HF v hv
                    first
                      | (go_at_call 72; first | with_reducible exact Calls.cls HC1 hv (iIdOf_any y0 y1 v) rfl | with_reducible exact Calls.cls HC1 hv (iIdOf_any x0 x1 v) rfl)
                      | exact rfl
                      | (go_simp; exact rfl)
                      | (go_simp; exact ⟨rfl, hv⟩)
                  clear hK K))
          refine wpQuiet_nil ?_
          intro w3 b3
          have CC := Lib.hid (C2.out.trans (b3.mono C2.out.size))
          have SS := Lib.hid (SH.out.keep b3)
          by_cases hd : y0 = x0
          case pos =>
            have HE := Lib.hid (show disB l = false from range_bad HJ.out (by rw [HD.out]; exact noneId_bad HQ.out hlq (by rw [← HY.out]; exact hd)))
            subst hd
            go_wp2
            go_ret
            exact ⟨ret_bool HE.out.symm, CC.out⟩
          case neg =>
            have HE := Lib.hid (noneId_more HQ.out HN.out (by rw [← HY.out]; exact hd))
            go_wp2
            go_roundw
            case rel => exact ⟨q + 1, by omega, by go_num, HE.out, SS.out.tail, CC.out⟩
            case measure => simp [intOf]; omega
        · have hqj : q = j := by omega
          have HN := Lib.hid (show ∀ q, q < j + 1 → disAt l q = true from fun p hp => by
            rcases Nat.lt_or_ge p j with h1 | h1
            · exact HA.out p h1
            · have : p = j := by omega
              subst this
              rw [HD.out, ← hqj]
              exact hno)
          have CC := Lib.hid c
          have SS := Lib.hid S.tail
          subst hqj
          clear hno c S
          go_wp2
          go_roundw
          case rel => exact ⟨q + 1, by omega, by go_num, HN.out, SS.out, CC.out⟩
          case measure => simp [intOf]; omega
    · have HD := Lib.hid (show disB l = true from range_all.2 fun q hq => hall q (by have := HL.out; omega))
      have CC := Lib.hid c
      clear hall hel c S
      go_wp2
      go_ret
      exact ⟨ret_bool HD.out.symm, CC.out⟩

set_option maxHeartbeats 6400000 in
theorem iTimers_any (A : Option Addr) (n cc B : Nat) (l : List TimerM) (w : World) (h : Rd w B [timerD l] [.slice A n cc]) (hB : B ≤ w.heap.size) (hs : timerSz l ≤ 1048577) :
    Calls Try.prog 28 #[.slice A n cc] w fun e w' => e = .returned (.bool (timersB l)) ∧ Below w.heap.size w w' := by
  have HH := Lib.hid h
  obtain ⟨_, _, _, e, hl, _, _, hel⟩ := h.timers
  injection e with e1 e2 e3
  subst e1 e2 e3
  have HL := Lib.hid hl
  have hn : n ≤ 1048577 := by unfold timerSz at hs; omega
  clear h hl hs
  by_cases h16 : 16 < n
  case pos =>
    have HD := Lib.hid (timersB_long (l := l) (by have := HL.out; omega))
    clear hel
    go_enter Try.func28, Try.ntmps28
    go_wp2
    go_ret
    exact ⟨ret_bool HD.out.symm, Below.refl _ _⟩
  case neg =>
    go_enter Try.func28, Try.ntmps28
    go_wp2
    go_loopw [11] (fun i wr => ∃ j : Nat, j ≤ n ∧ i = .int .i64 (j : Int) ∧ (l.take j).all timerB = true ∧ Below w.heap.size w wr) (fun i _ => n - (intOf i).toNat)
    case atStart => exact ⟨0, Nat.zero_le _, rfl, by simp, Below.refl _ _⟩
    case round =>
      obtain ⟨j, hj, rfl, hall, c⟩ := hrel
      by_cases hlt : j < n
      · obtain ⟨b, off, rfl, hb, hc⟩ := hel (by omega)
        have hjl : j < l.length := by have := HL.out; omega
        obtain ⟨hc0, hc1⟩ := hc j hjl
        have cs0 := (c.cell (p := ⟨b, off + j * 2, none⟩) (show b < _ by omega)).trans hc0
        have cs1 := (c.cell (p := ⟨b, off + j * 2 + 1, none⟩) (show b < _ by omega)).trans hc1
        obtain ⟨x0, hx0⟩ : ∃ q, q = l[j].tid := ⟨_, rfl⟩
        obtain ⟨x1, hx1⟩ : ∃ q, q = l[j].due := ⟨_, rfl⟩
        rw [← hx0] at cs0
        rw [← hx1] at cs1
        have hmk : l[j] = ⟨x0, x1⟩ := by rw [hx0, hx1]
        have HM := Lib.hid hmk
        have HA := Lib.hid hall
        have HJ := Lib.hid hjl
        have C2 := Lib.hid (c.alloc c.size (.cells #[.int .i64 x0, .int .i64 x1] 64))
        clear hx0 hx1 hmk hc hc0 hc1 hel hall c
        go_wp2_with fail
        refine (iTimerOk_any x0 x1 _).mono ?_
        rintro e w1 ⟨rfl, b1⟩
        have CC := Lib.hid (C2.out.trans (b1.mono C2.out.size))
        clear b1
        cases hok : timerB ⟨x0, x1⟩
        case false =>
          have HD := Lib.hid (timersB_bad (all_less HJ.out (by rw [HM.out]; exact hok)))
          clear hok
          go_wp2
          go_ret
          exact ⟨ret_bool HD.out.symm, CC.out⟩
        case true =>
          have HN := Lib.hid (all_more HJ.out HA.out (by rw [HM.out]; exact hok))
          clear hok
          go_wp2
          go_roundw
          case rel => exact ⟨j + 1, by omega, by go_num, HN.out, CC.out⟩
          case measure => simp [intOf]; omega
      · have HT := Lib.hid (timersB_mid (l := l) (by have := HL.out; omega) (by rw [List.take_of_length_le (by have := HL.out; omega)] at hall; exact hall))
        have C := Lib.hid c
        clear hall hel c
        go_wp2_with fail
        refine (iTimersOf_any A n cc _).mono ?_
        rintro e w1 ⟨rfl, b1⟩
        have c1 := C.out.trans (b1.mono C.out.size)
        have C2 := Lib.hid (c1.alloc c1.size (.cells #[.slice A n cc, .func (.func 72) #[] #[], .func (.func 73) #[] #[]] 60))
        have P2 := Lib.hid (Blk.new w1 #[.slice A n cc, .func (.func 72) #[] #[], .func (.func 73) #[] #[]] 60)
        clear b1 c1
        have e0 : (w1.alloc (.cells #[.slice A n cc, .func (.func 72) #[] #[], .func (.func 73) #[] #[]] 60)).cell? ⟨w1.heap.size, 0, none⟩ = some (.slice A n cc) := P2.out.cell 0
        have e1 : (w1.alloc (.cells #[.slice A n cc, .func (.func 72) #[] #[], .func (.func 73) #[] #[]] 60)).cell? ⟨w1.heap.size, 1, none⟩ = some (.func (.func 72) #[] #[]) := P2.out.cell 1
        have e2 : (w1.alloc (.cells #[.slice A n cc, .func (.func 72) #[] #[], .func (.func 73) #[] #[]] 60)).cell? ⟨w1.heap.size, 2, none⟩ = some (.func (.func 73) #[] #[]) := P2.out.cell 2
        have lt1 := P2.out.lt
        have hB2 := Nat.le_trans hB C2.out.size
        go_wp2_with fail
        refine (iOrder_any A n cc B l _ (HH.out.keep (C2.out.mono hB)) hB2 hn).mono ?_
        rintro e w3 ⟨rfl, b3⟩
        have C3 := Lib.hid (C2.out.trans (b3.mono C2.out.size))
        have hB3 := Nat.le_trans hB C3.out.size
        have r0 : w3.cell? ⟨w1.heap.size, 0, none⟩ = some (.slice A n cc) := (b3.cell (p := ⟨w1.heap.size, 0, none⟩) lt1).trans e0
        have r1 : w3.cell? ⟨w1.heap.size, 1, none⟩ = some (.func (.func 72) #[] #[]) := (b3.cell (p := ⟨w1.heap.size, 1, none⟩) lt1).trans e1
        have r2 : w3.cell? ⟨w1.heap.size, 2, none⟩ = some (.func (.func 73) #[] #[]) := (b3.cell (p := ⟨w1.heap.size, 2, none⟩) lt1).trans e2
        clear b3 e0 e1 e2 lt1
        cases ho : ordB l
        case false =>
          have HE := Lib.hid (show timersB l = false by rw [HT.out, ho]; rfl)
          clear ho
          go_wp2
          go_ret
          exact ⟨ret_bool HE.out.symm, C3.out⟩
        case true =>
          have HE := Lib.hid (show timersB l = disB l by rw [HT.out, ho]; rfl)
          clear ho
          go_wp2_with fail
          refine (iDistinct_any A n cc B l _ (HH.out.keep (C3.out.mono hB)) hB3 hn).mono ?_
          rintro e w4 ⟨rfl, b4⟩
          have C4 := Lib.hid (C3.out.trans (b4.mono C3.out.size))
          clear b4
          go_wp2
          go_ret
          exact ⟨ret_bool HE.out.symm, C4.out⟩

end Go.Proofs.Ythekcaahkokjfaa

/-
  Chapter 11: open jobs in order, with ids of their own, of the program (by program, wip/gen/genletij.py).
-/
import Derived.Test.YtepnghjmpbfmcaaLetJ
import Derived.Test.YtepnghjmpbfmcaaCls
import Derived.RegionTactic
import Derived.BigQuiet
import Derived.Laws.EntriesVeiled
namespace Go.Proofs.Ytepnghjmpbfmcaa
set_option maxRecDepth 100000
open Go.RowKit

set_option maxHeartbeats 1600000 in
theorem iDueBefore_any (x0 x1 y0 y1 : Int) (w : World) :
    Calls Try.prog 107 #[.agg #[.int .i64 x0, .int .i64 x1], .agg #[.int .i64 y0, .int .i64 y1]] w fun e w' => e = .returned (.bool (timLess ⟨x0, x1⟩ ⟨y0, y1⟩)) ∧ Below w.heap.size w w' := by
  go_enter Try.func107, Try.ntmps107
  go_wp2
  all_goals
    go_ret
    refine ⟨ret_bool ?_, (by repeat (first | exact Below.refl _ _ | refine Below.alloc ?_ (by first | exact Nat.le_refl _ | (simp; done) | (simp; omega)) _))⟩
    first | rfl | (simp_all [timLess]; done) | (rw [Bool.eq_iff_iff]; simp_all [timLess] <;> omega) | (simp_all [timLess] <;> omega)

set_option maxHeartbeats 1600000 in
theorem iSooner_any (x0 x1 y0 y1 : Int) (w : World) :
    Calls Try.prog 104 #[.agg #[.int .i64 x0, .int .i64 x1], .agg #[.int .i64 y0, .int .i64 y1]] w fun e w' => e = .returned (.bool (timLess ⟨x0, x1⟩ ⟨y0, y1⟩)) ∧ Below w.heap.size w w' := by
  have S := Sep.nil w w.heap.size
  have c := Below.refl w.heap.size w
  replace S := S.boxAt c.size (w.heap.size) rfl #[.int .i64 x0, .int .i64 x1] 80
  replace c := c.alloc c.size (.cells #[.int .i64 x0, .int .i64 x1] 80)
  replace S := S.boxAt c.size (w.heap.size + 1) (by simp) #[.int .i64 y0, .int .i64 y1] 80
  replace c := c.alloc c.size (.cells #[.int .i64 y0, .int .i64 y1] 80)
  go_enter Try.func104, Try.ntmps104
  have f0 : ((w.alloc (.cells #[.int .i64 x0, .int .i64 x1] 80)).alloc (.cells #[.int .i64 y0, .int .i64 y1] 80)).cell? ⟨w.heap.size, 0, none⟩ = some (.int .i64 x0) := (S.at_ 1 rfl).cell 0
  have f1 : ((w.alloc (.cells #[.int .i64 x0, .int .i64 x1] 80)).alloc (.cells #[.int .i64 y0, .int .i64 y1] 80)).cell? ⟨w.heap.size, 1, none⟩ = some (.int .i64 x1) := (S.at_ 1 rfl).cell 1
  have f2 : ((w.alloc (.cells #[.int .i64 x0, .int .i64 x1] 80)).alloc (.cells #[.int .i64 y0, .int .i64 y1] 80)).cell? ⟨w.heap.size + 1, 0, none⟩ = some (.int .i64 y0) := (S.at_ 0 rfl).cell 0
  have f3 : ((w.alloc (.cells #[.int .i64 x0, .int .i64 x1] 80)).alloc (.cells #[.int .i64 y0, .int .i64 y1] 80)).cell? ⟨w.heap.size + 1, 1, none⟩ = some (.int .i64 y1) := (S.at_ 0 rfl).cell 1
  go_wp2_with fail
  generalize (w.alloc (.cells #[.int .i64 x0, .int .i64 x1] 80)).alloc (.cells #[.int .i64 y0, .int .i64 y1] 80) = w1 at *
  refine (iDueBefore_any x0 x1 y0 y1 _).mono ?_
  rintro e w2 ⟨rfl, b⟩
  replace c := c.trans (b.mono c.size)
  replace S := S.keep b
  clear b f0 f1 f2 f3
  have C := Lib.hid c
  go_wp2
  go_ret
  exact ⟨rfl, C.out⟩

set_option maxHeartbeats 1600000 in
theorem iKeyOf_any (x0 x1 : Int) (w : World) :
    Calls Try.prog 103 #[.agg #[.int .i64 x0, .int .i64 x1]] w fun e w' => e = .returned (.int .i64 x0) ∧ Below w.heap.size w w' := by
  go_enter Try.func103, Try.ntmps103
  go_wp2
  go_ret
  exact ⟨rfl, (Below.refl _ _).alloc (Nat.le_refl _) _⟩

set_option maxHeartbeats 6400000 in
theorem iOrderD_any (A : Option Addr) (n cc B : Nat) (l : List TimerM) (w : World) (h : Rd w B [djD l] [.slice A n cc]) (hB : B ≤ w.heap.size) (hn : n ≤ 1048577) :
    Calls Try.prog 105 #[.agg #[.slice A n cc, .func (.func 103) #[] #[], .func (.func 104) #[] #[]]] w fun e w' => e = .returned (.bool (ordB l)) ∧ Below w.heap.size w w' := by
  obtain ⟨_, _, _, e, hl, _, _, hel⟩ := h.djs
  injection e with e1 e2 e3
  subst e1 e2 e3
  have HL := Lib.hid hl
  clear h hl
  have S0 := Lib.hid ((Sep.nil w w.heap.size).boxAt (Nat.le_refl _) w.heap.size rfl #[.slice A n cc, .func (.func 103) #[] #[], .func (.func 104) #[] #[]] 141)
  have B0 := Lib.hid ((Below.refl w.heap.size w).alloc (Nat.le_refl _) (.cells #[.slice A n cc, .func (.func 103) #[] #[], .func (.func 104) #[] #[]] 141))
  go_enter Try.func105, Try.ntmps105
  go_wp2
  go_loopw [8] (fun i wr => ∃ j : Nat, j ≤ n ∧ i = .int .i64 (j : Int) ∧ (∀ q, q < j → ordAt l q = true) ∧ Sep wr w.heap.size [.blk w.heap.size #[.slice A n cc, .func (.func 103) #[] #[], .func (.func 104) #[] #[]] 141] ∧ Below w.heap.size w wr) (fun i _ => n - (intOf i).toNat)
  case atStart => exact ⟨0, Nat.zero_le _, rfl, fun q hq => absurd hq (by omega), S0.out, B0.out⟩
  case round =>
    obtain ⟨j, hj, rfl, hall, S, c⟩ := hrel
    clear S0 B0
    by_cases hlt : j < n
    · obtain ⟨b, off, rfl, hb, hc⟩ := hel (by omega)
      have hjl : j < l.length := by have := HL.out; omega
      obtain ⟨hc0, hc1⟩ := hc j hjl
      have cs0 := (c.cell (p := ⟨b, off + j * 2, none⟩) (show b < _ by omega)).trans hc0
      have cs1 := (c.cell (p := ⟨b, off + j * 2 + 1, none⟩) (show b < _ by omega)).trans hc1
      obtain ⟨x0, hx0⟩ : ∃ q, q = l[j].tid := ⟨_, rfl⟩
      obtain ⟨x1, hx1⟩ : ∃ q, q = l[j].due := ⟨_, rfl⟩
      rw [← hx0] at cs0
      rw [← hx1] at cs1
      have hmk : l[j] = ⟨x0, x1⟩ := by rw [hx0, hx1]
      have zb := c.size
      have k0 : wr.cell? ⟨w.heap.size, 0, none⟩ = some (.slice (some ⟨b, off, none⟩) n cc) := (S.at_ 0 rfl).cell 0
      have k2 : wr.cell? ⟨w.heap.size, 2, none⟩ = some (.func (.func 104) #[] #[]) := (S.at_ 0 rfl).cell 2
      have S2 := S.boxAt c.size wr.heap.size rfl #[.int .i64 x0, .int .i64 x1] 80
      have c2 := c.alloc c.size (.cells #[.int .i64 x0, .int .i64 x1] 80)
      have bb : Below wr.heap.size wr (wr.alloc (.cells #[.int .i64 x0, .int .i64 x1] 80)) := (Below.refl _ _).alloc (Nat.le_refl _) _
      have hbw : b < wr.heap.size := by omega
      have SH := Lib.hid S2
      have C2 := Lib.hid c2
      have HA := Lib.hid hall
      have HM := Lib.hid hmk
      by_cases hj0 : j = 0
      case pos =>
        subst hj0
        have HN := Lib.hid (show ∀ q, q < 0 + 1 → ordAt l q = true from fun q hq => by
          have : q = 0 := by omega
          subst this
          rfl)
        have d0 : (wr.alloc (.cells #[.int .i64 x0, .int .i64 x1] 80)).cell? ⟨wr.heap.size, 0, none⟩ = some (.int .i64 x0) := (SH.out.at_ 0 rfl).cell 0
        have cs0' : wr.cell? ⟨b, off, none⟩ = some (.int .i64 x0) := by simpa using cs0
        have cs1' : wr.cell? ⟨b, off + 1, none⟩ = some (.int .i64 x1) := by simpa using cs1
        clear hx0 hx1 hmk hc hc0 hc1 hel hall c S c2 S2 bb cs0 cs1
        go_wp2_with fail
        go_quiet (fail)
        go_wp2
        go_roundw
        case rel => exact ⟨0 + 1, by omega, by go_num, HN.out, (SH.out.keep (below_drewN (Below.refl _ _) _)).tail, below_drewN C2.out _⟩
        case measure => simp [intOf]; omega
      case neg =>
        obtain ⟨k, rfl⟩ : ∃ k, j = k + 1 := ⟨j - 1, by omega⟩
        have hkl : k < l.length := by omega
        obtain ⟨hd0, hd1⟩ := hc k hkl
        have ct0 := (c.cell (p := ⟨b, off + k * 2, none⟩) (show b < _ by omega)).trans hd0
        have ct1 := (c.cell (p := ⟨b, off + k * 2 + 1, none⟩) (show b < _ by omega)).trans hd1
        obtain ⟨y0, hy0⟩ : ∃ q, q = l[k].tid := ⟨_, rfl⟩
        obtain ⟨y1, hy1⟩ : ∃ q, q = l[k].due := ⟨_, rfl⟩
        rw [← hy0] at ct0
        rw [← hy1] at ct1
        have HY := Lib.hid (show l[k] = ⟨y0, y1⟩ by rw [hy0, hy1])
        have HCA := Lib.hid (show ordAt l (k + 1) = timLess ⟨y0, y1⟩ ⟨x0, x1⟩ by
          unfold ordAt
          rw [Nat.add_sub_cancel, tgetD hjl, tgetD hkl, hmk, HY.out, decide_eq_false (by omega), Bool.false_or])
        have k0' : (0 : Int) ≤ (k : Int) := by omega
        have k1' : (k : Int) < (n : Int) := by omega
        have ep : IntKind.i64.wrap (k : Int) = (k : Int) := by rw [IntKind.wrap_i64]; omega
        have cu0 := (bb.cell (p := ⟨b, off + k * 2, none⟩) hbw).trans ct0
        have cu1 := (bb.cell (p := ⟨b, off + k * 2 + 1, none⟩) hbw).trans ct1
        clear hx0 hx1 hmk hc hc0 hc1 hel hall c S c2 S2 bb hj0 hy0 hy1 hd0 hd1
        go_wp2_with fail
        generalize wr.alloc (.cells #[.int .i64 x0, .int .i64 x1] 80) = w1 at *
        clear cs0 cs1 ct0 ct1 k0 k2
        have d0 : w1.cell? ⟨wr.heap.size, 0, none⟩ = some (.int .i64 x0) := (SH.out.at_ 0 rfl).cell 0
        have d1 : w1.cell? ⟨wr.heap.size, 1, none⟩ = some (.int .i64 x1) := (SH.out.at_ 0 rfl).cell 1
        have e0 : w1.cell? ⟨w.heap.size, 0, none⟩ = some (.slice (some ⟨b, off, none⟩) n cc) := (SH.out.at_ 1 rfl).cell 0
        have e2 : w1.cell? ⟨w.heap.size, 2, none⟩ = some (.func (.func 104) #[] #[]) := (SH.out.at_ 1 rfl).cell 2
        refine wp_region_cls (fun v => v.cell? ⟨wr.heap.size, 0, none⟩ = some (.int .i64 x0) ∧ v.cell? ⟨wr.heap.size, 1, none⟩ = some (.int .i64 x1) ∧ v.cell? ⟨w.heap.size, 0, none⟩ = some (.slice (some ⟨b, off, none⟩) n cc) ∧ v.cell? ⟨w.heap.size, 2, none⟩ = some (.func (.func 104) #[] #[]) ∧ v.cell? ⟨b, off + k * 2, none⟩ = some (.int .i64 y0) ∧ v.cell? ⟨b, off + k * 2 + 1, none⟩ = some (.int .i64 y1)) (by kernel_rfl) (by kernel_rfl) (fun v hv => ⟨(hv.cell (p := ⟨wr.heap.size, 0, none⟩) (lt_of_cell d0)).trans d0, (hv.cell (p := ⟨wr.heap.size, 1, none⟩) (lt_of_cell d1)).trans d1, (hv.cell (p := ⟨w.heap.size, 0, none⟩) (lt_of_cell e0)).trans e0, (hv.cell (p := ⟨w.heap.size, 2, none⟩) (lt_of_cell e2)).trans e2, (hv.cell (p := ⟨b, off + k * 2, none⟩) (lt_of_cell cu0)).trans cu0, (hv.cell (p := ⟨b, off + k * 2 + 1, none⟩) (lt_of_cell cu1)).trans cu1⟩) ?_
        intro CL HF HC
        repeat
          (refine wpQuiet_step (fun K hK => ?_)
           go_simp
           first
             | (refine hK _ ?_; clear hK K)
             | (apply Exists.intro
                refine ⟨fun v hv => ?_, hK _ ?_⟩
                · obtain ⟨a0, a1, a2, a3, a4, a5⟩ := HF v hv
                  first
                    | (go_at_call 104; exact Calls.cls HC hv (iSooner_any y0 y1 x0 x1 v) (congrArg Value.bool HCA.out.symm))
                    | exact rfl
                    | (go_simp; exact rfl)
                    | (go_simp; exact ⟨rfl, hv⟩)
                clear hK K))
        refine wpQuiet_nil ?_
        intro w3 b3
        have CC := Lib.hid (C2.out.trans (b3.mono C2.out.size))
        have SS := Lib.hid (SH.out.keep b3)
        all_goals
          cases hok : ordAt l (k + 1)
          case false =>
            have HD := Lib.hid (show ordB l = false from range_bad hjl hok)
            clear hok
            go_wp2
            go_ret
            exact ⟨ret_bool HD.out.symm, CC.out⟩
          case true =>
            have HN := Lib.hid (show ∀ q, q < k + 1 + 1 → ordAt l q = true from fun q hq => by
              rcases Nat.lt_or_ge q (k + 1) with h1 | h1
              · exact HA.out q h1
              · have : q = k + 1 := by omega
                subst this
                exact hok)
            clear hok
            go_wp2
            go_roundw
            case rel => exact ⟨k + 1 + 1, by omega, by go_num, HN.out, SS.out.tail, CC.out⟩
            case measure => simp [intOf]; omega
    · have HD := Lib.hid (show ordB l = true from range_all.2 fun q hq => hall q (by have := HL.out; omega))
      have CC := Lib.hid c
      clear hall hel c S
      go_wp2
      go_ret
      exact ⟨ret_bool HD.out.symm, CC.out⟩

set_option maxHeartbeats 6400000 in
theorem iDistinctD_any (A : Option Addr) (n cc B : Nat) (l : List TimerM) (w : World) (h : Rd w B [djD l] [.slice A n cc]) (hB : B ≤ w.heap.size) (hn : n ≤ 1048577) :
    Calls Try.prog 106 #[.agg #[.slice A n cc, .func (.func 103) #[] #[], .func (.func 104) #[] #[]]] w fun e w' => e = .returned (.bool (disB l)) ∧ Below w.heap.size w w' := by
  obtain ⟨_, _, _, e, hl, hnc, hcm, hel⟩ := h.djs
  injection e with e1 e2 e3
  subst e1 e2 e3
  have HL := Lib.hid hl
  unfold maxLen at hcm
  clear h hl
  have S0 := Lib.hid ((Sep.nil w w.heap.size).boxAt (Nat.le_refl _) w.heap.size rfl #[.slice A n cc, .func (.func 103) #[] #[], .func (.func 104) #[] #[]] 141)
  have B0 := Lib.hid ((Below.refl w.heap.size w).alloc (Nat.le_refl _) (.cells #[.slice A n cc, .func (.func 103) #[] #[], .func (.func 104) #[] #[]] 141))
  go_enter Try.func106, Try.ntmps106
  go_wp2
  go_loopw [10] (fun i wr => ∃ j : Nat, j ≤ n ∧ i = .int .i64 (j : Int) ∧ (∀ q, q < j → disAt l q = true) ∧ Sep wr w.heap.size [.blk w.heap.size #[.slice A n cc, .func (.func 103) #[] #[], .func (.func 104) #[] #[]] 141] ∧ Below w.heap.size w wr) (fun i _ => n - (intOf i).toNat)
  case atStart => exact ⟨0, Nat.zero_le _, rfl, fun q hq => absurd hq (by omega), S0.out, B0.out⟩
  case round =>
    obtain ⟨j, hj, rfl, hall, S, c⟩ := hrel
    clear S0 B0
    rename World => wo
    by_cases hlt : j < n
    · obtain ⟨b, off, rfl, hb, hc⟩ := hel (by omega)
      have hjl : j < l.length := by have := HL.out; omega
      obtain ⟨hc0, hc1⟩ := hc j hjl
      have cs0 := (c.cell (p := ⟨b, off + j * 2, none⟩) (show b < _ by omega)).trans hc0
      have cs1 := (c.cell (p := ⟨b, off + j * 2 + 1, none⟩) (show b < _ by omega)).trans hc1
      obtain ⟨x0, hx0⟩ : ∃ q, q = l[j].tid := ⟨_, rfl⟩
      obtain ⟨x1, hx1⟩ : ∃ q, q = l[j].due := ⟨_, rfl⟩
      rw [← hx0] at cs0
      rw [← hx1] at cs1
      have hmk : l[j] = ⟨x0, x1⟩ := by rw [hx0, hx1]
      have zb := c.size
      have k0 : wo.cell? ⟨w.heap.size, 0, none⟩ = some (.slice (some ⟨b, off, none⟩) n cc) := (S.at_ 0 rfl).cell 0
      have S2 := S.boxAt c.size wo.heap.size rfl #[.int .i64 x0, .int .i64 x1] 80
      have c2 := c.alloc c.size (.cells #[.int .i64 x0, .int .i64 x1] 80)
      have SH := Lib.hid S2
      have C2 := Lib.hid c2
      have HA := Lib.hid hall
      have HC := Lib.hid hc
      have HD := Lib.hid (show disAt l j = noneId l j x0 by rw [disAt_eq hjl, hmk])
      have HJ := Lib.hid hjl
      have hjc : (j : Int) ≤ (cc : Int) := by omega
      have k1 : (wo.alloc (.cells #[.int .i64 x0, .int .i64 x1] 80)).cell? ⟨w.heap.size, 0, none⟩ = some (.slice (some ⟨b, off, none⟩) n cc) := (S2.at_ 1 rfl).cell 0
      clear hx0 hx1 hmk hc hc0 hc1 hel hall c S c2 S2 hjl
      go_wp2
      go_loopw [20] (fun i wr => ∃ q : Nat, q ≤ j ∧ i = .int .i64 (q : Int) ∧ noneId l q x0 = true ∧ Sep wr w.heap.size [.blk wo.heap.size #[.int .i64 x0, .int .i64 x1] 80, .blk w.heap.size #[.slice (some ⟨b, off, none⟩) n cc, .func (.func 103) #[] #[], .func (.func 104) #[] #[]] 141] ∧ Below w.heap.size w wr) (fun i _ => j - (intOf i).toNat)
      case atStart => exact ⟨0, Nat.zero_le _, rfl, noneId_zero _ _, SH.out, C2.out⟩
      case round =>
        obtain ⟨q, hq, rfl, hno, S, c⟩ := hrel
        clear SH C2 k0 k1 cs0 cs1
        by_cases hlq : q < j
        · have hql : q < l.length := by have := HJ.out; omega
          obtain ⟨hd0, hd1⟩ := HC.out q hql
          have ct0 := (c.cell (p := ⟨b, off + q * 2, none⟩) (show b < _ by omega)).trans hd0
          have ct1 := (c.cell (p := ⟨b, off + q * 2 + 1, none⟩) (show b < _ by omega)).trans hd1
          obtain ⟨y0, hy0⟩ : ∃ p, p = l[q].tid := ⟨_, rfl⟩
          obtain ⟨y1, hy1⟩ : ∃ p, p = l[q].due := ⟨_, rfl⟩
          rw [← hy0] at ct0
          rw [← hy1] at ct1
          have HY := Lib.hid hy0
          have HQ := Lib.hid hql
          have HN := Lib.hid hno
          have zv := c.size
          have S2 := S.boxAt c.size wr.heap.size rfl #[.int .i64 y0, .int .i64 y1] 80
          have c2 := c.alloc c.size (.cells #[.int .i64 y0, .int .i64 y1] 80)
          have SH := Lib.hid S2
          have C2 := Lib.hid c2
          clear hd0 hd1 hy0 hy1 hno c S c2 S2
          go_wp2_with fail
          generalize wr.alloc (.cells #[.int .i64 y0, .int .i64 y1] 80) = w1 at *
          clear ct0 ct1
          have d0 : w1.cell? ⟨wr.heap.size, 0, none⟩ = some (.int .i64 y0) := (SH.out.at_ 0 rfl).cell 0
          have d1 : w1.cell? ⟨wr.heap.size, 1, none⟩ = some (.int .i64 y1) := (SH.out.at_ 0 rfl).cell 1
          have e0 : w1.cell? ⟨wo.heap.size, 0, none⟩ = some (.int .i64 x0) := (SH.out.at_ 1 rfl).cell 0
          have e1 : w1.cell? ⟨wo.heap.size, 1, none⟩ = some (.int .i64 x1) := (SH.out.at_ 1 rfl).cell 1
          have e2 : w1.cell? ⟨w.heap.size, 1, none⟩ = some (.func (.func 103) #[] #[]) := (SH.out.at_ 2 rfl).cell 1
          refine wp_region_cls (fun v => v.cell? ⟨wr.heap.size, 0, none⟩ = some (.int .i64 y0) ∧ v.cell? ⟨wr.heap.size, 1, none⟩ = some (.int .i64 y1) ∧ v.cell? ⟨wo.heap.size, 0, none⟩ = some (.int .i64 x0) ∧ v.cell? ⟨wo.heap.size, 1, none⟩ = some (.int .i64 x1) ∧ v.cell? ⟨w.heap.size, 1, none⟩ = some (.func (.func 103) #[] #[])) (by kernel_rfl) (by kernel_rfl) (fun v hv => ⟨(hv.cell (p := ⟨wr.heap.size, 0, none⟩) (lt_of_cell d0)).trans d0, (hv.cell (p := ⟨wr.heap.size, 1, none⟩) (lt_of_cell d1)).trans d1, (hv.cell (p := ⟨wo.heap.size, 0, none⟩) (lt_of_cell e0)).trans e0, (hv.cell (p := ⟨wo.heap.size, 1, none⟩) (lt_of_cell e1)).trans e1, (hv.cell (p := ⟨w.heap.size, 1, none⟩) (lt_of_cell e2)).trans e2⟩) ?_
          intro CL HF HC1
          repeat
            (refine wpQuiet_step (fun K hK => ?_)
             go_simp
             first
               | (refine hK _ ?_; clear hK K)
               | (apply Exists.intro
                  refine ⟨fun v hv => ?_, hK _ ?_⟩
                  · obtain ⟨a0, a1, a2, a3, a4⟩ := HF v hv
                    first
                      | (go_at_call 103; first | with_reducible exact Calls.cls HC1 hv (iKeyOf_any y0 y1 v) rfl | with_reducible exact Calls.cls HC1 hv (iKeyOf_any x0 x1 v) rfl)
                      | exact rfl
                      | (go_simp; exact rfl)
                      | (go_simp; exact ⟨rfl, hv⟩)
                  clear hK K))
          refine wpQuiet_nil ?_
          intro w3 b3
          have CC := Lib.hid (C2.out.trans (b3.mono C2.out.size))
          have SS := Lib.hid (SH.out.keep b3)
          by_cases hd : y0 = x0
          case pos =>
            have HE := Lib.hid (show disB l = false from range_bad HJ.out (by rw [HD.out]; exact noneId_bad HQ.out hlq (by rw [← HY.out]; exact hd)))
            subst hd
            go_wp2
            go_ret
            exact ⟨ret_bool HE.out.symm, CC.out⟩
          case neg =>
            have HE := Lib.hid (noneId_more HQ.out HN.out (by rw [← HY.out]; exact hd))
            go_wp2
            go_roundw
            case rel => exact ⟨q + 1, by omega, by go_num, HE.out, SS.out.tail, CC.out⟩
            case measure => simp [intOf]; omega
        · have hqj : q = j := by omega
          have HN := Lib.hid (show ∀ q, q < j + 1 → disAt l q = true from fun p hp => by
            rcases Nat.lt_or_ge p j with h1 | h1
            · exact HA.out p h1
            · have : p = j := by omega
              subst this
              rw [HD.out, ← hqj]
              exact hno)
          have CC := Lib.hid c
          have SS := Lib.hid S.tail
          subst hqj
          clear hno c S
          go_wp2
          go_roundw
          case rel => exact ⟨q + 1, by omega, by go_num, HN.out, SS.out, CC.out⟩
          case measure => simp [intOf]; omega
    · have HD := Lib.hid (show disB l = true from range_all.2 fun q hq => hall q (by have := HL.out; omega))
      have CC := Lib.hid c
      clear hall hel c S
      go_wp2
      go_ret
      exact ⟨ret_bool HD.out.symm, CC.out⟩

end Go.Proofs.Ytepnghjmpbfmcaa

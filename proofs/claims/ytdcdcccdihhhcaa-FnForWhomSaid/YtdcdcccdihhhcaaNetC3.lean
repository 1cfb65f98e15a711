/-
  Chapter 5: validity of networks, in the model (by program, wip/gen/gennetd.py).
-/
import Derived.Test.YtdcdcccdihhhcaaNetM
import Derived.Test.YtdcdcccdihhhcaaCls
import Derived.RegionTactic
import Derived.BigQuiet
namespace Go.Proofs.Ytdcdcccdihhhcaa
set_option maxRecDepth 100000
open Go.RowKit

theorem sNodeQ {x : Int} {w : World} {v : Bool} (h : nodeB x = v) : Calls Try.prog 74 #[.int .i64 x] w fun e w' => e = .returned (.bool v) ∧ w' = w :=
  (sNode_any x w).mono fun _ _ ⟨h1, h2⟩ => ⟨h1.trans (by rw [h]), h2.symm⟩
theorem linkB_1 {x0 x1 : Int} (h : nodeB x0 = false) : linkB ⟨x0, x1⟩ = false := by
  unfold linkB
  rw [h, Bool.false_and]
theorem linkB_2 {x0 x1 : Int} (h : nodeB x1 = false) : linkB ⟨x0, x1⟩ = false := by
  unfold linkB
  rw [h, Bool.false_and, Bool.and_false]
theorem linkB_3 {x0 x1 : Int} (h : ¬ x0 < x1) : linkB ⟨x0, x1⟩ = false := by
  unfold linkB
  rw [decide_eq_false h, Bool.and_false, Bool.and_false]
theorem linkB_4 {x0 x1 : Int} (h0 : nodeB x0 = true) (h1 : nodeB x1 = true) (h : x0 < x1) : linkB ⟨x0, x1⟩ = true := by
  unfold linkB
  rw [h0, h1, decide_eq_true h]
  rfl

set_option maxHeartbeats 12800000 in
theorem sNetOk_any (v0 v1 : Value) (t : NetM) (B : Nat) (w : World) (h : Rd w B t.cells [v0, v1]) (hB : B ≤ w.heap.size) (hs : t.sz ≤ 1048577) :
    Calls Try.prog 41 #[.agg #[v0, v1]] w fun e w' => e = .returned (.bool (netOk t)) ∧ Below w.heap.size w w' := by
  obtain ⟨A0, n0, c0, A1, n1, c1, rfl, rfl, hr0, hr1⟩ := h.netT
  have hz0 : msgSz t.flight ≤ 1048577 := by unfold NetM.sz at hs; omega
  have hz1 : linkSz t.cuts ≤ 1048577 := by unfold NetM.sz at hs; omega
  obtain ⟨_, _, _, e, hl0, _, _, hel0⟩ := hr0.msgs
  injection e with e1 e2 e3
  subst e1 e2 e3
  obtain ⟨_, _, _, e, hl1, _, _, hel1⟩ := hr1.links
  injection e with e1 e2 e3
  subst e1 e2 e3
  have hn0 : n0 ≤ 1048577 := by unfold msgSz at hz0; omega
  have hn1 : n1 ≤ 1048577 := by unfold linkSz at hz1; omega
  have HS := Lib.hid hz0
  have HL0 := Lib.hid hl0
  have HL1 := Lib.hid hl1
  clear h hr0 hr1 hl0 hl1 hs hz1 hz0
  have S0 := Lib.hid ((Sep.nil w w.heap.size).boxAt (Nat.le_refl _) w.heap.size rfl #[.slice A0 n0 c0, .slice A1 n1 c1] 30)
  have B0 := Lib.hid ((Below.refl w.heap.size w).alloc (Nat.le_refl _) (.cells #[.slice A0 n0 c0, .slice A1 n1 c1] 30))
  by_cases g0 : 60 < n0
  case pos =>
    have HD := Lib.hid (show netOk t = false from netOk_long (.inl (by have := HL0.out; omega)))
    clear hel0 hel1
    go_enter Try.func41, Try.ntmps41
    go_wp2
    go_ret
    exact ⟨ret_bool HD.out.symm, B0.out⟩
  by_cases g1 : 15 < n1
  case pos =>
    have HD := Lib.hid (show netOk t = false from netOk_long (.inr (by have := HL1.out; omega)))
    clear hel0 hel1
    go_enter Try.func41, Try.ntmps41
    go_wp2
    go_ret
    exact ⟨ret_bool HD.out.symm, B0.out⟩
  go_enter Try.func41, Try.ntmps41
  go_wp2
  go_loopw [3] (fun i wr => ∃ j : Nat, j ≤ n0 ∧ i = .int .i64 (j : Int) ∧ (t.flight.take j).all msgOk = true ∧ Sep wr w.heap.size [.blk w.heap.size #[.slice A0 n0 c0, .slice A1 n1 c1] 30] ∧ Below w.heap.size w wr) (fun i _ => n0 - (intOf i).toNat)
  case atStart => exact ⟨0, Nat.zero_le _, rfl, by simp, S0.out, B0.out⟩
  case round =>
    obtain ⟨j, hj, rfl, hall, S, c⟩ := hrel
    clear S0 B0
    have k0 : wr.cell? ⟨w.heap.size, 0, none⟩ = some (.slice A0 n0 c0) := (S.at_ 0 rfl).cell 0
    have k1 : wr.cell? ⟨w.heap.size, 1, none⟩ = some (.slice A1 n1 c1) := (S.at_ 0 rfl).cell 1
    by_cases hlt : j < n0
    · obtain ⟨b, off, rfl, hb, hc⟩ := hel0 (by omega)
      have hjl : j < t.flight.length := by have := HL0.out; omega
      obtain ⟨A1_, m1, d1, hc0, hc1, hc2, hrow, _⟩ := hc j hjl
      have cs0 := (c.cell (p := ⟨b, off + j * 3, none⟩) (show b < _ by omega)).trans hc0
      have cs1 := (c.cell (p := ⟨b, off + j * 3 + 1, none⟩) (show b < _ by omega)).trans hc1
      have cs2 := (c.cell (p := ⟨b, off + j * 3 + 2, none⟩) (show b < _ by omega)).trans hc2
      have hm1 : m1 ≤ 1048577 := by
        have h1 := pre_at (g := msgRowSz) hjl
        have h2 := HS.out
        have h3 := hrow.1
        have h4 : msgRowSz t.flight[j] = t.flight[j].row.length := rfl
        unfold msgSz at h2
        omega
      obtain ⟨x0, hx0⟩ : ∃ q, q = t.flight[j].frm := ⟨_, rfl⟩
      obtain ⟨x1, hx1⟩ : ∃ q, q = t.flight[j].dest := ⟨_, rfl⟩
      obtain ⟨xr, hxr⟩ : ∃ q, q = t.flight[j].row := ⟨_, rfl⟩
      rw [← hx0] at cs0
      rw [← hx1] at cs1
      rw [← hxr] at hrow
      have hmk : t.flight[j] = ⟨x0, x1, xr⟩ := by rw [hx0, hx1, hxr]
      have HM := Lib.hid hmk
      have hr := hrow.below (c.mono hB)
      have hB2 := Nat.le_trans hB c.size
      have HA := Lib.hid hall
      have C := Lib.hid c
      have SH := Lib.hid S
      clear hx0 hx1 hxr hmk hc hc0 hc1 hc2 hrow hel0 hel1 hall c S
      go_wp2_with fail
      refine (sMsgOk_any x0 x1 A1_ m1 d1 B xr _ hr hB2 hm1).mono ?_
      rintro e w1 ⟨rfl, b⟩
      have CC := Lib.hid (C.out.trans (b.mono C.out.size))
      have SS := Lib.hid (SH.out.keep b)
      clear b hr
      cases hok : msgOk ⟨x0, x1, xr⟩
      case false =>
        have HD := Lib.hid (show netOk t = false from netOk_msg (all_less hjl (by rw [HM.out]; exact hok)))
        clear hok
        go_wp2
        go_ret
        exact ⟨ret_bool HD.out.symm, CC.out⟩
      case true =>
        have HN := Lib.hid (all_more hjl HA.out (by rw [HM.out]; exact hok))
        clear hok
        go_wp2
        go_roundw
        case rel => exact ⟨j + 1, by omega, by go_num, HN.out, SS.out, CC.out⟩
        case measure => simp [intOf]; omega
    · have hjn : j = t.flight.length := by have := HL0.out; omega
      have HK := Lib.hid (show t.flight.all msgOk = true by rw [hjn, List.take_of_length_le (Nat.le_refl _)] at hall; exact hall)
      have SS := Lib.hid S
      have CC := Lib.hid c
      clear hjn hall hel0 c S
      go_wp2
      go_loopw [4] (fun i wr => ∃ j : Nat, j ≤ n1 ∧ i = .int .i64 (j : Int) ∧ (∀ q, q < j → cutAt t.cuts q = true) ∧ Sep wr w.heap.size [.blk w.heap.size #[.slice A0 n0 c0, .slice A1 n1 c1] 30] ∧ Below w.heap.size w wr) (fun i _ => n1 - (intOf i).toNat)
      case atStart => exact ⟨0, Nat.zero_le _, rfl, fun q hq => absurd hq (by omega), SS.out, CC.out⟩
      case round =>
        clear k0 k1
        obtain ⟨j, hj, rfl, hall2, S, c⟩ := hrel
        clear SS CC
        have k0 : wr.cell? ⟨w.heap.size, 0, none⟩ = some (.slice A0 n0 c0) := (S.at_ 0 rfl).cell 0
        have k1 : wr.cell? ⟨w.heap.size, 1, none⟩ = some (.slice A1 n1 c1) := (S.at_ 0 rfl).cell 1
        by_cases hlt : j < n1
        · obtain ⟨b, off, rfl, hb, hc⟩ := hel1 (by omega)
          have hjl : j < t.cuts.length := by have := HL1.out; omega
          obtain ⟨hc0, hc1⟩ := hc j hjl
          have cs0 := (c.cell (p := ⟨b, off + j * 2, none⟩) (show b < _ by omega)).trans hc0
          have cs1 := (c.cell (p := ⟨b, off + j * 2 + 1, none⟩) (show b < _ by omega)).trans hc1
          obtain ⟨x0, hx0⟩ : ∃ q, q = t.cuts[j].a := ⟨_, rfl⟩
          obtain ⟨x1, hx1⟩ : ∃ q, q = t.cuts[j].b := ⟨_, rfl⟩
          rw [← hx0] at cs0
          rw [← hx1] at cs1
          have hmk : t.cuts[j] = ⟨x0, x1⟩ := by rw [hx0, hx1]
          have c2 := c.alloc c.size (.cells #[.int .i64 x0, .int .i64 x1] 75)
          have S2 := S.box c.size #[.int .i64 x0, .int .i64 x1] 75
          have C2 := Lib.hid c2
          have SH := Lib.hid S2
          have zb := c.size
          have hbw : b < wr.heap.size := by omega
          have bb : Below wr.heap.size wr (wr.alloc (.cells #[.int .i64 x0, .int .i64 x1] 75)) := (Below.refl _ _).alloc (Nat.le_refl _) _
          have i0 : (0 : Int) ≤ (j : Int) := by omega
          have i1 : (j : Int) < (n1 : Int) := by omega
          have HA := Lib.hid hall2
          have HM := Lib.hid hmk
          cases hn0 : nodeB x0
          case false =>
            have HD := Lib.hid (show netOk t = false from netOk_cut (cutsB_bad hjl (by unfold cutAt; rw [getD_at hjl, hmk, linkB_1 hn0, Bool.false_and])))
            clear hx0 hx1 hmk hc hc0 hc1 hel1 hall2 c S c2 S2 bb
            go_wp2_with fail
            generalize wr.alloc (.cells #[.int .i64 x0, .int .i64 x1] 75) = w1 at *
            have d0 : w1.cell? ⟨wr.heap.size, 0, none⟩ = some (.int .i64 x0) := (SH.out.at_ 0 rfl).cell 0
            have d1 : w1.cell? ⟨wr.heap.size, 1, none⟩ = some (.int .i64 x1) := (SH.out.at_ 0 rfl).cell 1
            have a1 : w1.cell? ⟨w.heap.size, 1, none⟩ = some (.slice (some ⟨b, off, none⟩) n1 c1) := (SH.out.at_ 1 rfl).cell 1
            have hq0 := Lib.hid (fun q => sNodeQ (w := w1.drewN q) hn0)
            have hq1 := Lib.hid (fun q => sNodeQ (w := w1.drewN q) hn0)
            go_quiet ((go_at_call 74; first | with_reducible exact Calls.quiet_of_same (hq0.out _) | with_reducible exact Calls.quiet_of_same (hq1.out _)))
            go_wp2
            go_ret
            exact ⟨ret_bool HD.out.symm, below_drewN C2.out _⟩
          cases hn1 : nodeB x1
          case false =>
            have HD := Lib.hid (show netOk t = false from netOk_cut (cutsB_bad hjl (by unfold cutAt; rw [getD_at hjl, hmk, linkB_2 hn1, Bool.false_and])))
            clear hx0 hx1 hmk hc hc0 hc1 hel1 hall2 c S c2 S2 bb
            go_wp2_with fail
            generalize wr.alloc (.cells #[.int .i64 x0, .int .i64 x1] 75) = w1 at *
            have d0 : w1.cell? ⟨wr.heap.size, 0, none⟩ = some (.int .i64 x0) := (SH.out.at_ 0 rfl).cell 0
            have d1 : w1.cell? ⟨wr.heap.size, 1, none⟩ = some (.int .i64 x1) := (SH.out.at_ 0 rfl).cell 1
            have a1 : w1.cell? ⟨w.heap.size, 1, none⟩ = some (.slice (some ⟨b, off, none⟩) n1 c1) := (SH.out.at_ 1 rfl).cell 1
            have hq0 := Lib.hid (fun q => sNodeQ (w := w1.drewN q) hn0)
            have hq1 := Lib.hid (fun q => sNodeQ (w := w1.drewN q) hn1)
            go_quiet ((go_at_call 74; first | with_reducible exact Calls.quiet_of_same (hq0.out _) | with_reducible exact Calls.quiet_of_same (hq1.out _)))
            go_wp2
            go_ret
            exact ⟨ret_bool HD.out.symm, below_drewN C2.out _⟩
          by_cases hlt3 : x0 < x1
          case neg =>
            have HD := Lib.hid (show netOk t = false from netOk_cut (cutsB_bad hjl (by unfold cutAt; rw [getD_at hjl, hmk, linkB_3 hlt3, Bool.false_and])))
            have hd3 : decide (x1 ≤ x0) = true := decide_eq_true (by omega)
            clear hx0 hx1 hmk hc hc0 hc1 hel1 hall2 c S c2 S2 bb
            go_wp2_with fail
            generalize wr.alloc (.cells #[.int .i64 x0, .int .i64 x1] 75) = w1 at *
            have d0 : w1.cell? ⟨wr.heap.size, 0, none⟩ = some (.int .i64 x0) := (SH.out.at_ 0 rfl).cell 0
            have d1 : w1.cell? ⟨wr.heap.size, 1, none⟩ = some (.int .i64 x1) := (SH.out.at_ 0 rfl).cell 1
            have a1 : w1.cell? ⟨w.heap.size, 1, none⟩ = some (.slice (some ⟨b, off, none⟩) n1 c1) := (SH.out.at_ 1 rfl).cell 1
            have hq0 := Lib.hid (fun q => sNodeQ (w := w1.drewN q) hn0)
            have hq1 := Lib.hid (fun q => sNodeQ (w := w1.drewN q) hn1)
            go_quiet ((go_at_call 74; first | with_reducible exact Calls.quiet_of_same (hq0.out _) | with_reducible exact Calls.quiet_of_same (hq1.out _)))
            go_wp2
            go_ret
            exact ⟨ret_bool HD.out.symm, below_drewN C2.out _⟩
          have hlb := linkB_4 hn0 hn1 hlt3
          have hd3 : decide (x1 ≤ x0) = false := decide_eq_false (by omega)
          by_cases hj0 : j = 0
          case pos =>
            have HN := Lib.hid (show ∀ q, q < j + 1 → cutAt t.cuts q = true from fun q hq => by
              have : q = j := by omega
              subst this
              unfold cutAt
              rw [getD_at hjl, hmk, hlb, decide_eq_true hj0]
              rfl)
            have hd : decide (0 < j) = false := decide_eq_false (by omega)
            clear hx0 hx1 hmk hc hc0 hc1 hel1 hall2 c S c2 S2 bb hj0 hlb hlt3
            go_wp2_with fail
            generalize wr.alloc (.cells #[.int .i64 x0, .int .i64 x1] 75) = w1 at *
            have d0 : w1.cell? ⟨wr.heap.size, 0, none⟩ = some (.int .i64 x0) := (SH.out.at_ 0 rfl).cell 0
            have d1 : w1.cell? ⟨wr.heap.size, 1, none⟩ = some (.int .i64 x1) := (SH.out.at_ 0 rfl).cell 1
            have a1 : w1.cell? ⟨w.heap.size, 1, none⟩ = some (.slice (some ⟨b, off, none⟩) n1 c1) := (SH.out.at_ 1 rfl).cell 1
            have hq0 := Lib.hid (fun q => sNodeQ (w := w1.drewN q) hn0)
            have hq1 := Lib.hid (fun q => sNodeQ (w := w1.drewN q) hn1)
            go_quiet ((go_at_call 74; first | with_reducible exact Calls.quiet_of_same (hq0.out _) | with_reducible exact Calls.quiet_of_same (hq1.out _)))
            go_wp2
            go_roundw
            case rel => exact ⟨j + 1, by omega, by go_num, HN.out, (SH.out.keep (below_drewN (Below.refl _ _) _)).tail, below_drewN C2.out _⟩
            case measure => simp [intOf]; omega
          case neg =>
            obtain ⟨k, rfl⟩ : ∃ k, j = k + 1 := ⟨j - 1, by omega⟩
            have hkl : k < t.cuts.length := by omega
            obtain ⟨hd0, hd1⟩ := hc k hkl
            have ct0 := (c.cell (p := ⟨b, off + k * 2, none⟩) (show b < _ by omega)).trans hd0
            have ct1 := (c.cell (p := ⟨b, off + k * 2 + 1, none⟩) (show b < _ by omega)).trans hd1
            obtain ⟨y0, hy0⟩ : ∃ q, q = t.cuts[k].a := ⟨_, rfl⟩
            obtain ⟨y1, hy1⟩ : ∃ q, q = t.cuts[k].b := ⟨_, rfl⟩
            rw [← hy0] at ct0
            rw [← hy1] at ct1
            have HY := Lib.hid (show t.cuts[k] = ⟨y0, y1⟩ by rw [hy0, hy1])
            have HCA := Lib.hid (show cutAt t.cuts (k + 1) = linkLess ⟨y0, y1⟩ ⟨x0, x1⟩ by
              unfold cutAt
              rw [Nat.add_sub_cancel, getD_at hjl, getD_at hkl, hmk, HY.out, hlb, Bool.true_and, decide_eq_false (by omega), Bool.false_or])
            have k0' : (0 : Int) ≤ (k : Int) := by omega
            have k1' : (k : Int) < (n1 : Int) := by omega
            have ep : IntKind.i64.wrap (k : Int) = (k : Int) := by rw [IntKind.wrap_i64]; omega
            have cu0 := (bb.cell (p := ⟨b, off + k * 2, none⟩) hbw).trans ct0
            have cu1 := (bb.cell (p := ⟨b, off + k * 2 + 1, none⟩) hbw).trans ct1
            clear hx0 hx1 hmk hc hc0 hc1 hel1 hall2 c S c2 S2 bb hj0 hlb hlt3 hy0 hy1 hd0 hd1
            go_wp2_with fail
            generalize wr.alloc (.cells #[.int .i64 x0, .int .i64 x1] 75) = w1 at *
            clear cs0 cs1 ct0 ct1
            have d0 : w1.cell? ⟨wr.heap.size, 0, none⟩ = some (.int .i64 x0) := (SH.out.at_ 0 rfl).cell 0
            have d1 : w1.cell? ⟨wr.heap.size, 1, none⟩ = some (.int .i64 x1) := (SH.out.at_ 0 rfl).cell 1
            have a1 : w1.cell? ⟨w.heap.size, 1, none⟩ = some (.slice (some ⟨b, off, none⟩) n1 c1) := (SH.out.at_ 1 rfl).cell 1
            refine wp_region_cls (fun v => v.cell? ⟨wr.heap.size, 0, none⟩ = some (.int .i64 x0) ∧ v.cell? ⟨wr.heap.size, 1, none⟩ = some (.int .i64 x1) ∧ v.cell? ⟨w.heap.size, 1, none⟩ = some (.slice (some ⟨b, off, none⟩) n1 c1) ∧ v.cell? ⟨b, off + k * 2, none⟩ = some (.int .i64 y0) ∧ v.cell? ⟨b, off + k * 2 + 1, none⟩ = some (.int .i64 y1)) (by kernel_rfl) (by kernel_rfl) (fun v hv => ⟨(hv.cell (p := ⟨wr.heap.size, 0, none⟩) (lt_of_cell d0)).trans d0, (hv.cell (p := ⟨wr.heap.size, 1, none⟩) (lt_of_cell d1)).trans d1, (hv.cell (p := ⟨w.heap.size, 1, none⟩) (lt_of_cell a1)).trans a1, (hv.cell (p := ⟨b, off + k * 2, none⟩) (lt_of_cell cu0)).trans cu0, (hv.cell (p := ⟨b, off + k * 2 + 1, none⟩) (lt_of_cell cu1)).trans cu1⟩) ?_
            intro C HF HC
            repeat
              (refine wpQuiet_step (fun K hK => ?_)
               go_simp
               first
                 | (refine hK _ ?_; clear hK K)
                 | (apply Exists.intro
                    refine ⟨fun v hv => ?_, hK _ ?_⟩
                    · obtain ⟨a0, a1, a2, a3, a4⟩ := HF v hv
                      first
                        | (go_at_call 74; first | exact Calls.cls HC hv ((sNode_any x0 v).mono fun _ _ ⟨h1, h2⟩ => ⟨h1, by rw [← h2]; exact Below.refl _ _⟩) (congrArg Value.bool hn0) | exact Calls.cls HC hv ((sNode_any x1 v).mono fun _ _ ⟨h1, h2⟩ => ⟨h1, by rw [← h2]; exact Below.refl _ _⟩) (congrArg Value.bool hn1))
                        | (go_at_call 80; exact Calls.cls HC hv (sLess_any y0 y1 x0 x1 v) (congrArg Value.bool HCA.out.symm))
                        | exact rfl
                        | (go_simp; exact rfl)
                        | (go_simp; exact ⟨rfl, hv⟩)
                    clear hK K))
            refine wpQuiet_nil ?_
            intro w3 b3
            have CC := Lib.hid (C2.out.trans (b3.mono C2.out.size))
            have SS := Lib.hid (SH.out.keep b3)
            all_goals
              cases hok : cutAt t.cuts (k + 1)
              case false =>
                have HD := Lib.hid (show netOk t = false from netOk_cut (cutsB_bad hjl hok))
                clear hok
                go_wp2
                go_ret
                exact ⟨ret_bool HD.out.symm, CC.out⟩
              case true =>
                have HN := Lib.hid (show ∀ q, q < k + 1 + 1 → cutAt t.cuts q = true from fun q hq => by
                  rcases Nat.lt_or_ge q (k + 1) with h1 | h1
                  · exact HA.out q h1
                  · have : q = k + 1 := by omega
                    subst this
                    exact hok)
                clear hok
                go_wp2
                go_roundw
                case rel => exact ⟨k + 1 + 1, by omega, by go_num, HN.out, SS.out.tail, CC.out⟩
                case measure => simp [intOf]; omega
        · have HC := Lib.hid (show cutsB t.cuts = true from cutsB_end fun q hq => hall2 q (by have := HL1.out; omega))
          have CC := Lib.hid c
          clear hall2 hel1 c S
          go_wp2
          go_ret
          exact ⟨ret_bool (netOk_yes (by have := HL0.out; omega) (by have := HL1.out; omega) HK.out HC.out).symm, CC.out⟩

end Go.Proofs.Ytdcdcccdihhhcaa

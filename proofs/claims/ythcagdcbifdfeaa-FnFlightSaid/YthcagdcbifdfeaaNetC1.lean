/-
  Chapter 5: validity of networks, of the model and of the program (by program, wip/gen/gennetc.py).
-/
import Derived.Test.YthcagdcbifdfeaaNetM
import Derived.RegionTactic
import Derived.BigQuiet
namespace Go.Proofs.Ythcagdcbifdfeaa
set_option maxRecDepth 100000
open Go.RowKit

set_option maxHeartbeats 3200000 in
theorem iFlight_any (A : Option Addr) (n c : Nat) (l : List MsgM) (B : Nat) (w : World) (h : Rd w B [msgD l] [.slice A n c]) (hB : B ≤ w.heap.size) (hs : msgSz l ≤ 1048577) :
    Calls Try.prog 72 #[.slice A n c] w fun e w' => e = .returned (.bool (decide (l.length ≤ 60) && l.all msgOk)) ∧ Below w.heap.size w w' := by
  obtain ⟨_, _, _, e, hl, _, _, hel⟩ := h.msgs
  injection e with e1 e2 e3
  subst e1 e2 e3
  have hn : n ≤ 1048577 := by unfold msgSz at hs; omega
  have HS := Lib.hid hs
  have HL := Lib.hid hl
  clear h hs hl
  by_cases h60 : 60 < n
  case pos =>
    have HD := Lib.hid (show (decide (l.length ≤ 60) && l.all msgOk) = false by have := HL.out; rw [decide_eq_false (by omega)]; rfl)
    clear hel
    go_enter Try.func72, Try.ntmps72
    go_wp2
    go_ret
    exact ⟨ret_bool HD.out.symm, Below.refl _ _⟩
  case neg =>
    have H6 := Lib.hid (show decide (l.length ≤ 60) = true by have := HL.out; exact decide_eq_true (by omega))
    go_enter Try.func72, Try.ntmps72
    go_wp2
    go_loopw [10] (fun i wr => ∃ j : Nat, j ≤ n ∧ i = .int .i64 (j : Int) ∧ (l.take j).all msgOk = true ∧ Below w.heap.size w wr) (fun i _ => n - (intOf i).toNat)
    case atStart => exact ⟨0, Nat.zero_le _, rfl, by simp, Below.refl _ _⟩
    case round =>
      obtain ⟨j, hj, rfl, hall, c⟩ := hrel
      by_cases hlt : j < n
      · obtain ⟨b, off, rfl, hb, hc⟩ := hel (by omega)
        have hjl : j < l.length := by have := HL.out; omega
        obtain ⟨A1, m1, d1, hc0, hc1, hc2, hrow, _⟩ := hc j hjl
        have cs0 := (c.cell (p := ⟨b, off + j * 3, none⟩) (show b < _ by omega)).trans hc0
        have cs1 := (c.cell (p := ⟨b, off + j * 3 + 1, none⟩) (show b < _ by omega)).trans hc1
        have cs2 := (c.cell (p := ⟨b, off + j * 3 + 2, none⟩) (show b < _ by omega)).trans hc2
        have hm1 : m1 ≤ 1048577 := by
          have h1 := pre_at (g := msgRowSz) hjl
          have h2 := HS.out
          have h3 := hrow.1
          have h4 : msgRowSz l[j] = l[j].row.length := rfl
          unfold msgSz at h2
          omega
        obtain ⟨x0, hx0⟩ : ∃ q, q = l[j].frm := ⟨_, rfl⟩
        obtain ⟨x1, hx1⟩ : ∃ q, q = l[j].dest := ⟨_, rfl⟩
        obtain ⟨xr, hxr⟩ : ∃ q, q = l[j].row := ⟨_, rfl⟩
        rw [← hx0] at cs0
        rw [← hx1] at cs1
        rw [← hxr] at hrow
        have hmk : l[j] = ⟨x0, x1, xr⟩ := by rw [hx0, hx1, hxr]
        have HM := Lib.hid hmk
        have hr := hrow.below (c.mono hB)
        have c2 := c.alloc c.size (.cells #[.int .i64 x0, .int .i64 x1, .slice A1 m1 d1] 37)
        have hr2 := hrow.below (c2.mono hB)
        have C2 := Lib.hid c2
        have hB2 := Nat.le_trans hB c2.size
        have HA := Lib.hid hall
        clear hx0 hx1 hxr hmk hc hc0 hc1 hc2 hrow hel hall c c2 hr
        go_wp2_with fail
        refine (iMsgOk_any x0 x1 A1 m1 d1 B xr _ hr2 hB2 hm1).mono ?_
        rintro e w1 ⟨rfl, b⟩
        have CC := Lib.hid (C2.out.trans (b.mono C2.out.size))
        clear b hr2
        cases hok : msgOk ⟨x0, x1, xr⟩
        case false =>
          have HD := Lib.hid (show (decide (l.length ≤ 60) && l.all msgOk) = false by rw [all_less hjl (by rw [HM.out]; exact hok), Bool.and_false])
          clear hok
          go_wp2
          go_ret
          exact ⟨ret_bool HD.out.symm, CC.out⟩
        case true =>
          have HN := Lib.hid (all_more hjl HA.out (by rw [HM.out]; exact hok))
          clear hok
          go_wp2
          go_roundw
          case rel => exact ⟨j + 1, by omega, by go_num, HN.out, CC.out⟩
          case measure => simp [intOf]; omega
      · have hjn : j = l.length := by have := HL.out; omega
        have HK := Lib.hid (show l.all msgOk = true by rw [hjn, List.take_of_length_le (Nat.le_refl _)] at hall; exact hall)
        have CC := Lib.hid c
        clear hjn hall hel c
        go_wp2
        go_ret
        exact ⟨ret_bool (by rw [H6.out, HK.out]; rfl), CC.out⟩

set_option maxHeartbeats 6400000 in
theorem iCuts_any (A : Option Addr) (n c : Nat) (l : List LinkM) (B : Nat) (w : World) (h : Rd w B [linkD l] [.slice A n c]) (hB : B ≤ w.heap.size) (hs : linkSz l ≤ 1048577) :
    Calls Try.prog 73 #[.slice A n c] w fun e w' => e = .returned (.bool (decide (l.length ≤ 15) && cutsB l)) ∧ Below w.heap.size w w' := by
  obtain ⟨_, _, _, e, hl, _, _, hel⟩ := h.links
  injection e with e1 e2 e3
  subst e1 e2 e3
  have hn : n ≤ 1048577 := by unfold linkSz at hs; omega
  have HL := Lib.hid hl
  clear h hs hl
  by_cases h15 : 15 < n
  case pos =>
    have HD := Lib.hid (show (decide (l.length ≤ 15) && cutsB l) = false by have := HL.out; rw [decide_eq_false (by omega)]; rfl)
    clear hel
    go_enter Try.func73, Try.ntmps73
    go_wp2
    go_ret
    exact ⟨ret_bool HD.out.symm, Below.refl _ _⟩
  case neg =>
    have H6 := Lib.hid (show decide (l.length ≤ 15) = true by have := HL.out; exact decide_eq_true (by omega))
    go_enter Try.func73, Try.ntmps73
    go_wp2
    go_loopw [10] (fun i wr => ∃ j : Nat, j ≤ n ∧ i = .int .i64 (j : Int) ∧ (∀ q, q < j → cutAt l q = true) ∧ Below w.heap.size w wr) (fun i _ => n - (intOf i).toNat)
    case atStart => exact ⟨0, Nat.zero_le _, rfl, fun q hq => absurd hq (by omega), Below.refl _ _⟩
    case round =>
      obtain ⟨j, hj, rfl, hall, c⟩ := hrel
      by_cases hlt : j < n
      · obtain ⟨b, off, rfl, hb, hc⟩ := hel (by omega)
        have hjl : j < l.length := by have := HL.out; omega
        obtain ⟨hc0, hc1⟩ := hc j hjl
        have cs0 := (c.cell (p := ⟨b, off + j * 2, none⟩) (show b < _ by omega)).trans hc0
        have cs1 := (c.cell (p := ⟨b, off + j * 2 + 1, none⟩) (show b < _ by omega)).trans hc1
        obtain ⟨x0, hx0⟩ : ∃ q, q = l[j].a := ⟨_, rfl⟩
        obtain ⟨x1, hx1⟩ : ∃ q, q = l[j].b := ⟨_, rfl⟩
        rw [← hx0] at cs0
        rw [← hx1] at cs1
        have hmk : l[j] = ⟨x0, x1⟩ := by rw [hx0, hx1]
        have HM := Lib.hid hmk
        have c2 := c.alloc c.size (.cells #[.int .i64 x0, .int .i64 x1] 76)
        have p2 := Blk.new wr #[.int .i64 x0, .int .i64 x1] 76
        have C2 := Lib.hid c2
        have P2 := Lib.hid p2
        have HA := Lib.hid hall
        have zb := c.size
        have i0 : (0 : Int) ≤ (j : Int) := by omega
        have i1 : (j : Int) < (n : Int) := by omega
        cases hok : linkB ⟨x0, x1⟩
        case false =>
          have HD := Lib.hid (show (decide (l.length ≤ 15) && cutsB l) = false by
            rw [cutsB_bad hjl (by unfold cutAt; rw [getD_at hjl, hmk, hok, Bool.false_and]), Bool.and_false])
          have HO := Lib.hid hok
          clear hx0 hx1 hmk hc hc0 hc1 hel hall c c2 hok p2
          by_cases ht : twoB x0 x1 = true
          · have hgt : ¬ (x0 ≤ x1) := by
              have h1 := HO.out
              intro hle
              simp only [linkB, twoB, Bool.and_eq_true, bne_iff_ne, ne_eq, Bool.and_eq_false_iff, decide_eq_false_iff_not] at h1 ht
              rcases h1 with h1 | h1 | h1
              · rw [ht.1.1] at h1; cases h1
              · rw [ht.1.2] at h1; cases h1
              · omega
            go_wp2_with (go_at_call 65; refine (iTwo_any _ _ _).mono ?_; rintro e w' ⟨rfl, rfl⟩; rw [ht])
            go_ret
            exact ⟨ret_bool HD.out.symm, C2.out⟩
          · have ht' : twoB x0 x1 = false := by simpa using ht
            go_wp2_with (go_at_call 65; refine (iTwo_any _ _ _).mono ?_; rintro e w' ⟨rfl, rfl⟩; rw [ht'])
            go_ret
            exact ⟨ret_bool HD.out.symm, C2.out⟩
        case true =>
          have ht : twoB x0 x1 = true := by
            simp only [linkB, Bool.and_eq_true, decide_eq_true_eq] at hok
            simp only [twoB, Bool.and_eq_true, bne_iff_ne, ne_eq]
            exact ⟨⟨hok.1, hok.2.1⟩, by omega⟩
          have hle : x0 ≤ x1 := by
            simp only [linkB, Bool.and_eq_true, decide_eq_true_eq] at hok
            omega
          by_cases hj0 : j = 0
          · have HN := Lib.hid (show ∀ q, q < j + 1 → cutAt l q = true from fun q hq => by
              have : q = j := by omega
              subst this
              unfold cutAt
              rw [getD_at hjl, hmk, hok, decide_eq_true hj0]
              rfl)
            have hd : decide (0 < j) = false := decide_eq_false (by omega)
            clear hx0 hx1 hmk hc hc0 hc1 hel hall c c2 hok p2 hj0
            go_wp2_with (go_at_call 65; refine (iTwo_any _ _ _).mono ?_; rintro e w' ⟨rfl, rfl⟩; rw [ht])
            go_quiet (fail)
            go_wp2
            go_roundw
            case rel => exact ⟨j + 1, by omega, by go_num, HN.out, below_drewN C2.out _⟩
            case measure => simp [intOf]; omega
          · obtain ⟨k, rfl⟩ : ∃ k, j = k + 1 := ⟨j - 1, by omega⟩
            have hkl : k < l.length := by omega
            obtain ⟨hd0, hd1⟩ := hc k hkl
            have ct0 := (c.cell (p := ⟨b, off + k * 2, none⟩) (show b < _ by omega)).trans hd0
            have ct1 := (c.cell (p := ⟨b, off + k * 2 + 1, none⟩) (show b < _ by omega)).trans hd1
            obtain ⟨y0, hy0⟩ : ∃ q, q = l[k].a := ⟨_, rfl⟩
            obtain ⟨y1, hy1⟩ : ∃ q, q = l[k].b := ⟨_, rfl⟩
            rw [← hy0] at ct0
            rw [← hy1] at ct1
            have HY := Lib.hid (show l[k] = ⟨y0, y1⟩ by rw [hy0, hy1])
            have hca : cutAt l (k + 1) = linkLess ⟨y0, y1⟩ ⟨x0, x1⟩ := by
              unfold cutAt
              rw [Nat.add_sub_cancel, getD_at hjl, getD_at hkl, hmk, HY.out, hok, Bool.true_and, decide_eq_false hj0, Bool.false_or]
            have HCA := Lib.hid hca
            have k0 : (0 : Int) ≤ (k : Int) := by omega
            have ep : IntKind.i64.wrap (k : Int) = (k : Int) := by rw [IntKind.wrap_i64]; omega
            have k1 : (k : Int) < (n : Int) := by omega
            have q0 := C2.out.cell (p := ⟨b, off + k * 2, none⟩) (show b < _ by omega)
            have bb : Below wr.heap.size wr (wr.alloc (.cells #[.int .i64 x0, .int .i64 x1] 76)) := (Below.refl _ _).alloc (Nat.le_refl _) _
            have hbw : b < wr.heap.size := by omega
            have cu0 := (bb.cell (p := ⟨b, off + k * 2, none⟩) hbw).trans ct0
            have cu1 := (bb.cell (p := ⟨b, off + k * 2 + 1, none⟩) hbw).trans ct1
            clear hx0 hx1 hmk hc hc0 hc1 hel hall c c2 hok p2 hca hy0 hy1 hd0 hd1 q0 bb hj0
            go_wp2_with (go_at_call 65; refine (iTwo_any _ _ _).mono ?_; rintro e w' ⟨rfl, rfl⟩; rw [ht])
            generalize wr.alloc (.cells #[.int .i64 x0, .int .i64 x1] 76) = w1 at *
            have d0 : w1.cell? ⟨wr.heap.size, 0, none⟩ = some (.int .i64 x0) := P2.out.cell 0
            have d1 : w1.cell? ⟨wr.heap.size, 1, none⟩ = some (.int .i64 x1) := P2.out.cell 1
            clear cs0 cs1 ct0 ct1
            go_region_with (first
              | (go_at_call 95
                 refine (iLess_any y0 y1 x0 x1 _).mono ?_
                 rintro e w2 ⟨rfl, b2⟩
                 rw [← HCA.out]
                 have CC := Lib.hid (C2.out.drew.trans (b2.mono C2.out.drew.size)))
              )
            all_goals
              cases hok : cutAt l (k + 1)
              case false =>
                have HD := Lib.hid (show (decide (l.length ≤ 15) && cutsB l) = false by rw [cutsB_bad hjl hok, Bool.and_false])
                clear hok
                go_wp2
                go_ret
                exact ⟨ret_bool HD.out.symm, CC.out⟩
              case true =>
                have HN := Lib.hid (show ∀ q, q < k + 1 + 1 → cutAt l q = true from fun q hq => by
                  rcases Nat.lt_or_ge q (k + 1) with h1 | h1
                  · exact HA.out q h1
                  · have : q = k + 1 := by omega
                    subst this
                    exact hok)
                clear hok
                go_wp2
                go_roundw
                case rel => exact ⟨k + 1 + 1, by omega, by go_num, HN.out, CC.out⟩
                case measure => simp [intOf]; omega
      · have HK := Lib.hid (show cutsB l = true from cutsB_end fun q hq => hall q (by have := HL.out; omega))
        have CC := Lib.hid c
        clear hall hel c
        go_wp2
        go_ret
        exact ⟨ret_bool (by rw [H6.out, HK.out]; rfl), CC.out⟩

theorem netOk_split (t : NetM) : netOk t = ((decide (t.flight.length ≤ 60) && t.flight.all msgOk) && (decide (t.cuts.length ≤ 15) && cutsB t.cuts)) := by
  unfold netOk
  cases decide (t.flight.length ≤ 60) <;> cases decide (t.cuts.length ≤ 15) <;> cases t.flight.all msgOk <;> rfl
set_option maxHeartbeats 3200000 in
theorem iNetOk_any (v0 v1 : Value) (t : NetM) (B : Nat) (w : World) (h : Rd w B t.cells [v0, v1]) (hB : B ≤ w.heap.size) (hs : t.sz ≤ 1048577) :
    Calls Try.prog 29 #[.agg #[v0, v1]] w fun e w' => e = .returned (.bool (netOk t)) ∧ Below w.heap.size w w' := by
  obtain ⟨A0, n0, c0, A1, n1, c1, rfl, rfl, hr0, hr1⟩ := h.netT
  have hz0 : msgSz t.flight ≤ 1048577 := by unfold NetM.sz at hs; omega
  have hz1 : linkSz t.cuts ≤ 1048577 := by unfold NetM.sz at hs; omega
  have S := Sep.nil w w.heap.size
  have c := Below.refl w.heap.size w
  replace S := S.boxAt c.size (w.heap.size) rfl #[.slice A0 n0 c0, .slice A1 n1 c1] 30
  replace c := c.alloc c.size (.cells #[.slice A0 n0 c0, .slice A1 n1 c1] 30)
  go_enter Try.func29, Try.ntmps29
  go_wp2_with fail
  generalize w.alloc (.cells #[.slice A0 n0 c0, .slice A1 n1 c1] 30) = w1 at *
  refine (iFlight_any _ _ _ t.flight B _ (hr0.keep (c.mono hB)) (Nat.le_trans hB c.size) hz0).mono ?_
  rintro e w2 ⟨rfl, b⟩
  replace c := c.trans (b.mono c.size)
  replace S := S.keep b
  clear b
  cases hok : (decide (t.flight.length ≤ 60) && t.flight.all msgOk)
  case false =>
    have HD := Lib.hid (show netOk t = false by rw [netOk_split, hok, Bool.false_and])
    have C := Lib.hid c
    clear S c h hr0 hr1 hok
    go_wp2
    go_ret
    exact ⟨ret_bool HD.out.symm, C.out⟩
  case true =>
    have HD := Lib.hid (show netOk t = (decide (t.cuts.length ≤ 15) && cutsB t.cuts) by rw [netOk_split, hok, Bool.true_and])
    clear hok
    have f0 : w2.cell? ⟨w.heap.size, 1, none⟩ = some (.slice A1 n1 c1) := (S.at_ 0 rfl).cell 1
    go_wp2_with fail
    refine (iCuts_any _ _ _ t.cuts B _ (hr1.keep (c.mono hB)) (Nat.le_trans hB c.size) hz1).mono ?_
    rintro e w3 ⟨rfl, b⟩
    replace c := c.trans (b.mono c.size)
    replace S := S.keep b
    clear b f0
    rw [← HD.out]
    have C := Lib.hid c
    clear S c h hr0 hr1
    go_wp2
    go_ret
    exact ⟨rfl, C.out⟩

end Go.Proofs.Ythcagdcbifdfeaa

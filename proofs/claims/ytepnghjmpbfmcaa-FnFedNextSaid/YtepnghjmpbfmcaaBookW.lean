/-
  Two lists of entries compared by the laws (by program, wip/gen/genbookw.py).
-/
import Derived.Test.YtepnghjmpbfmcaaBookM
import Derived.RegionTactic
import Derived.BigQuiet
namespace Go.Proofs.Ytepnghjmpbfmcaa
set_option maxRecDepth 100000
open Go.RowKit

set_option maxHeartbeats 6400000 in
theorem w9Same_any (A A2 : Option Addr) (n c n2 c2 B B2 : Nat) (l r : List EntM) (w : World) (h : Rd w B [entD l] [.slice A n c]) (h2 : Rd w B2 [entD r] [.slice A2 n2 c2]) (hB : B ≤ w.heap.size) (hB2 : B2 ≤ w.heap.size) (hs : entSz l ≤ 1048577) (hs2 : entSz r ≤ 1048577) :
    Calls Try.prog 36 #[.slice A n c, .slice A2 n2 c2] w fun e w' => e = .returned (.bool (sameEs l r)) ∧ Below w.heap.size w w' := by
  obtain ⟨_, _, _, e, hl, _, _, hel⟩ := h.ents
  injection e with e1 e2 e3
  subst e1 e2 e3
  obtain ⟨_, _, _, e, hl2, _, _, hel2⟩ := h2.ents
  injection e with e1 e2 e3
  subst e1 e2 e3
  have hn : n ≤ 1048577 := by unfold entSz at hs; omega
  have hn2 : n2 ≤ 1048577 := by unfold entSz at hs2; omega
  have HL := Lib.hid hl
  have HL2 := Lib.hid hl2
  clear h h2 hs hs2 hl hl2
  by_cases hnn : n = n2
  case neg =>
    have HD := Lib.hid (sameEs_len (l := l) (r := r) (by rw [HL.out, HL2.out]; exact hnn))
    have e1 : ((n : Int) != (n2 : Int)) = true := by simp; omega
    have e2 : ((n : Int) == (n2 : Int)) = false := by simp; omega
    clear hel hel2
    go_enter Try.func36, Try.ntmps36
    go_wp2
    go_ret
    exact ⟨ret_bool HD.out.symm, Below.refl _ _⟩
  case pos =>
    subst hnn
    have e1 : ((n : Int) != (n : Int)) = false := by simp
    go_enter Try.func36, Try.ntmps36
    go_wp2
    go_loopw [5] (fun i wr => ∃ j : Nat, j ≤ n ∧ i = .int .i64 (j : Int) ∧ (∀ q, q < j → l.getD q ent0 = r.getD q ent0) ∧ Below w.heap.size w wr) (fun i _ => n - (intOf i).toNat)
    case atStart => exact ⟨0, Nat.zero_le _, rfl, fun q hq => absurd hq (by omega), Below.refl _ _⟩
    case round =>
      obtain ⟨j, hj, rfl, hall, c0⟩ := hrel
      have HA := Lib.hid hall
      clear hall
      by_cases hlt : j < n
      case neg =>
        obtain rfl : j = n := by omega
        have HD := Lib.hid (show sameEs l r = true from (sameEs_iff l r).2 (List.ext_getElem (by rw [HL.out, HL2.out]) fun q h1 h2 => by have h9 := HA.out q (by have := HL.out; omega); rwa [egetD h1, egetD h2] at h9))
        have CC := Lib.hid c0
        clear hel hel2 c0
        go_wp2
        go_ret
        exact ⟨ret_bool HD.out.symm, CC.out⟩
      case pos =>
      have hjl : j < l.length := by have := HL.out; omega
      have hjr : j < r.length := by have := HL2.out; omega
      obtain ⟨b, off, rfl, hb, hcA⟩ := hel (by omega)
      obtain ⟨b2, off2, rfl, hb2, hcB⟩ := hel2 (by omega)
      obtain ⟨hc0, hc1, hc2, hc3, hc4, hc5, hc6, hc7, hc8⟩ := hcA j hjl
      obtain ⟨hd0, hd1, hd2, hd3, hd4, hd5, hd6, hd7, hd8⟩ := hcB j hjr
      have cs0 := (c0.cell (p := ⟨b, off + j * 9, none⟩) (show b < _ by omega)).trans hc0
      have cs1 := (c0.cell (p := ⟨b, off + j * 9 + 1, none⟩) (show b < _ by omega)).trans hc1
      have cs2 := (c0.cell (p := ⟨b, off + j * 9 + 2, none⟩) (show b < _ by omega)).trans hc2
      have cs3 := (c0.cell (p := ⟨b, off + j * 9 + 3, none⟩) (show b < _ by omega)).trans hc3
      have cs4 := (c0.cell (p := ⟨b, off + j * 9 + 4, none⟩) (show b < _ by omega)).trans hc4
      have cs5 := (c0.cell (p := ⟨b, off + j * 9 + 5, none⟩) (show b < _ by omega)).trans hc5
      have cs6 := (c0.cell (p := ⟨b, off + j * 9 + 6, none⟩) (show b < _ by omega)).trans hc6
      have cs7 := (c0.cell (p := ⟨b, off + j * 9 + 7, none⟩) (show b < _ by omega)).trans hc7
      have cs8 := (c0.cell (p := ⟨b, off + j * 9 + 8, none⟩) (show b < _ by omega)).trans hc8
      have ct0 := (c0.cell (p := ⟨b2, off2 + j * 9, none⟩) (show b2 < _ by omega)).trans hd0
      have ct1 := (c0.cell (p := ⟨b2, off2 + j * 9 + 1, none⟩) (show b2 < _ by omega)).trans hd1
      have ct2 := (c0.cell (p := ⟨b2, off2 + j * 9 + 2, none⟩) (show b2 < _ by omega)).trans hd2
      have ct3 := (c0.cell (p := ⟨b2, off2 + j * 9 + 3, none⟩) (show b2 < _ by omega)).trans hd3
      have ct4 := (c0.cell (p := ⟨b2, off2 + j * 9 + 4, none⟩) (show b2 < _ by omega)).trans hd4
      have ct5 := (c0.cell (p := ⟨b2, off2 + j * 9 + 5, none⟩) (show b2 < _ by omega)).trans hd5
      have ct6 := (c0.cell (p := ⟨b2, off2 + j * 9 + 6, none⟩) (show b2 < _ by omega)).trans hd6
      have ct7 := (c0.cell (p := ⟨b2, off2 + j * 9 + 7, none⟩) (show b2 < _ by omega)).trans hd7
      have ct8 := (c0.cell (p := ⟨b2, off2 + j * 9 + 8, none⟩) (show b2 < _ by omega)).trans hd8
      obtain ⟨z0, hz0⟩ : ∃ q, q = l[j].idx := ⟨_, rfl⟩
      rw [← hz0] at cs0
      obtain ⟨y0, hy0⟩ : ∃ q, q = r[j].idx := ⟨_, rfl⟩
      rw [← hy0] at ct0
      obtain ⟨z1, hz1⟩ : ∃ q, q = l[j].tm := ⟨_, rfl⟩
      rw [← hz1] at cs1
      obtain ⟨y1, hy1⟩ : ∃ q, q = r[j].tm := ⟨_, rfl⟩
      rw [← hy1] at ct1
      obtain ⟨z2, hz2⟩ : ∃ q, q = l[j].cl := ⟨_, rfl⟩
      rw [← hz2] at cs2
      obtain ⟨y2, hy2⟩ : ∃ q, q = r[j].cl := ⟨_, rfl⟩
      rw [← hy2] at ct2
      obtain ⟨z3, hz3⟩ : ∃ q, q = l[j].sq := ⟨_, rfl⟩
      rw [← hz3] at cs3
      obtain ⟨y3, hy3⟩ : ∃ q, q = r[j].sq := ⟨_, rfl⟩
      rw [← hy3] at ct3
      obtain ⟨z4, hz4⟩ : ∃ q, q = l[j].kd := ⟨_, rfl⟩
      rw [← hz4] at cs4
      obtain ⟨y4, hy4⟩ : ∃ q, q = r[j].kd := ⟨_, rfl⟩
      rw [← hy4] at ct4
      obtain ⟨z5, hz5⟩ : ∃ q, q = l[j].oa := ⟨_, rfl⟩
      rw [← hz5] at cs5
      obtain ⟨y5, hy5⟩ : ∃ q, q = r[j].oa := ⟨_, rfl⟩
      rw [← hy5] at ct5
      obtain ⟨z6, hz6⟩ : ∃ q, q = l[j].ob := ⟨_, rfl⟩
      rw [← hz6] at cs6
      obtain ⟨y6, hy6⟩ : ∃ q, q = r[j].ob := ⟨_, rfl⟩
      rw [← hy6] at ct6
      obtain ⟨z7, hz7⟩ : ∃ q, q = l[j].oc := ⟨_, rfl⟩
      rw [← hz7] at cs7
      obtain ⟨y7, hy7⟩ : ∃ q, q = r[j].oc := ⟨_, rfl⟩
      rw [← hy7] at ct7
      obtain ⟨z8, hz8⟩ : ∃ q, q = l[j].od := ⟨_, rfl⟩
      rw [← hz8] at cs8
      obtain ⟨y8, hy8⟩ : ∃ q, q = r[j].od := ⟨_, rfl⟩
      rw [← hy8] at ct8
      have hm1 : l[j] = ⟨z0, z1, z2, z3, z4, z5, z6, z7, z8⟩ := by rw [hz0, hz1, hz2, hz3, hz4, hz5, hz6, hz7, hz8]
      have hm2 : r[j] = ⟨y0, y1, y2, y3, y4, y5, y6, y7, y8⟩ := by rw [hy0, hy1, hy2, hy3, hy4, hy5, hy6, hy7, hy8]
      have HC := Lib.hid c0
      by_cases he : l[j] = r[j]
      case pos =>
        rw [hm1, hm2] at he
        injection he with q0 q1 q2 q3 q4 q5 q6 q7 q8
        have HN := Lib.hid (show ∀ q, q < j + 1 → l.getD q ent0 = r.getD q ent0 from fun q hq => by
          rcases Nat.lt_or_ge q j with h1 | h1
          · exact HA.out q h1
          · obtain rfl : q = j := by omega
            rw [egetD hjl, egetD hjr, hm1, hm2, q0, q1, q2, q3, q4, q5, q6, q7, q8])
        clear hcA hcB hel hel2 hm1 hm2 hz0 hy0 hc0 hd0 hz1 hy1 hc1 hd1 hz2 hy2 hc2 hd2 hz3 hy3 hc3 hd3 hz4 hy4 hc4 hd4 hz5 hy5 hc5 hd5 hz6 hy6 hc6 hd6 hz7 hy7 hc7 hd7 hz8 hy8 hc8 hd8
        subst q0 q1 q2 q3 q4 q5 q6 q7 q8
        go_wp2_with fail
        go_quiet (fail)
        have CC := Lib.hid (below_drewN HC.out nq)
        clear c0 cs0 ct0 cs1 ct1 cs2 ct2 cs3 ct3 cs4 ct4 cs5 ct5 cs6 ct6 cs7 ct7 cs8 ct8
        generalize wr.drewN nq = w9 at *
        go_wp2
        go_roundw
        case rel => exact ⟨j + 1, by omega, by go_num, HN.out, CC.out⟩
        case measure => simp [intOf]; omega
      case neg =>
        have HD := Lib.hid (sameEs_step (l := l) (r := r) hjl (by rw [Bool.eq_false_iff]; intro h9; exact he (by have h8 := (sameE_iff _ _).1 h9; rwa [egetD hjl, egetD hjr] at h8)))
        have hne : ¬ (z0 = y0 ∧ z1 = y1 ∧ z2 = y2 ∧ z3 = y3 ∧ z4 = y4 ∧ z5 = y5 ∧ z6 = y6 ∧ z7 = y7 ∧ z8 = y8) := fun h9 => he (by rw [hm1, hm2]; obtain ⟨q0, q1, q2, q3, q4, q5, q6, q7, q8⟩ := h9; rw [q0, q1, q2, q3, q4, q5, q6, q7, q8])
        clear he hm1 hm2 hcA hcB hel hel2 hz0 hy0 hc0 hd0 hz1 hy1 hc1 hd1 hz2 hy2 hc2 hd2 hz3 hy3 hc3 hd3 hz4 hy4 hc4 hd4 hz5 hy5 hc5 hd5 hz6 hy6 hc6 hd6 hz7 hy7 hc7 hd7 hz8 hy8 hc8 hd8
        by_cases q0 : z0 = y0
        case neg =>
          have e0 : (z0 == y0) = false := by simpa using q0
          clear hne q0
          go_wp2_with fail
          go_quiet (fail)
          have CC := Lib.hid (below_drewN HC.out nq)
          go_wp2
          go_ret
          exact ⟨ret_bool HD.out.symm, CC.out⟩
        subst q0
        by_cases q1 : z1 = y1
        case neg =>
          have e1 : (z1 == y1) = false := by simpa using q1
          clear hne q1
          go_wp2_with fail
          go_quiet (fail)
          have CC := Lib.hid (below_drewN HC.out nq)
          go_wp2
          go_ret
          exact ⟨ret_bool HD.out.symm, CC.out⟩
        subst q1
        by_cases q2 : z2 = y2
        case neg =>
          have e2 : (z2 == y2) = false := by simpa using q2
          clear hne q2
          go_wp2_with fail
          go_quiet (fail)
          have CC := Lib.hid (below_drewN HC.out nq)
          go_wp2
          go_ret
          exact ⟨ret_bool HD.out.symm, CC.out⟩
        subst q2
        by_cases q3 : z3 = y3
        case neg =>
          have e3 : (z3 == y3) = false := by simpa using q3
          clear hne q3
          go_wp2_with fail
          go_quiet (fail)
          have CC := Lib.hid (below_drewN HC.out nq)
          go_wp2
          go_ret
          exact ⟨ret_bool HD.out.symm, CC.out⟩
        subst q3
        by_cases q4 : z4 = y4
        case neg =>
          have e4 : (z4 == y4) = false := by simpa using q4
          clear hne q4
          go_wp2_with fail
          go_quiet (fail)
          have CC := Lib.hid (below_drewN HC.out nq)
          go_wp2
          go_ret
          exact ⟨ret_bool HD.out.symm, CC.out⟩
        subst q4
        by_cases q5 : z5 = y5
        case neg =>
          have e5 : (z5 == y5) = false := by simpa using q5
          clear hne q5
          go_wp2_with fail
          go_quiet (fail)
          have CC := Lib.hid (below_drewN HC.out nq)
          go_wp2
          go_ret
          exact ⟨ret_bool HD.out.symm, CC.out⟩
        subst q5
        by_cases q6 : z6 = y6
        case neg =>
          have e6 : (z6 == y6) = false := by simpa using q6
          clear hne q6
          go_wp2_with fail
          go_quiet (fail)
          have CC := Lib.hid (below_drewN HC.out nq)
          go_wp2
          go_ret
          exact ⟨ret_bool HD.out.symm, CC.out⟩
        subst q6
        by_cases q7 : z7 = y7
        case neg =>
          have e7 : (z7 == y7) = false := by simpa using q7
          clear hne q7
          go_wp2_with fail
          go_quiet (fail)
          have CC := Lib.hid (below_drewN HC.out nq)
          go_wp2
          go_ret
          exact ⟨ret_bool HD.out.symm, CC.out⟩
        subst q7
        by_cases q8 : z8 = y8
        case neg =>
          have e8 : (z8 == y8) = false := by simpa using q8
          clear hne q8
          go_wp2_with fail
          go_quiet (fail)
          have CC := Lib.hid (below_drewN HC.out nq)
          go_wp2
          go_ret
          exact ⟨ret_bool HD.out.symm, CC.out⟩
        subst q8
        exact absurd ⟨rfl, rfl, rfl, rfl, rfl, rfl, rfl, rfl, rfl⟩ hne

end Go.Proofs.Ytepnghjmpbfmcaa

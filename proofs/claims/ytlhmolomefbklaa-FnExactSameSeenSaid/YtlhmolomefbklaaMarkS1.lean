/-
  Chapter 9: marks copied and compared, of the model (by program, wip/gen/genmark2.py).
-/
import Derived.Test.YtlhmolomefbklaaMarkM
import Derived.Test.YtlhmolomefbklaaMove
import Derived.RegionTactic
import Derived.BigQuiet
import Derived.Laws.EntriesVeiled
namespace Go.Proofs.Ytlhmolomefbklaa
set_option maxRecDepth 100000
open Go.RowKit

theorem mrk_flat : ∀ x : MarkM, mrkC x = (mrkNs x).flatMap fun y => [Dat.int y] := fun _ => rfl
set_option maxHeartbeats 3200000 in
theorem sCopyMs_any (A : Option Addr) (n cc B : Nat) (l : List MarkM) (w : World) (h : Rd w B [mrkD l] [.slice A n cc]) (hB : B ≤ w.heap.size) (hs : mrkSz l ≤ 1048577) :
    Calls Try.prog 46 #[.slice A n cc] w fun e w' => ∃ (A2 : Option Addr) (c2 : Nat), e = .returned (.slice A2 n c2) ∧ Has w' w.heap.size [mrkD l] [.slice A2 n c2] ∧ Below w.heap.size w w' := by
  obtain ⟨_, _, _, e, hl, _, hcm, _⟩ := h.mrks
  injection e with e1 e2 e3
  subst e1 e2 e3
  have hn : n ≤ 1048577 := by unfold mrkSz at hs; omega
  have S := Sep.nil w w.heap.size
  have c := Below.refl w.heap.size w
  replace S := S.boxAt c.size (w.heap.size) rfl #[] 30
  replace c := c.alloc c.size (.cells #[] 30)
  have hsr := Rd.src (f := mrkC) (g := mrkNs) (l := l) (e := 30) (k := 3) mrk_flat (fun _ => rfl) (by decide) (h.keep (c.mono hB))
  replace S := S.blk0 (k := 3) (f := mrkC)
  replace S := (S.flat (f := mrkC) (g := mrkNs) mrk_flat l).swap
  have hgc := Lib.hid c
  clear h c hcm
  go_enter Try.func46, Try.ntmps46
  go_wp2_with (first
    | (at_builtin
       refine wpList_append_fresh (f := mrkC) (k := 3) (l2 := l) rfl (.tmp 3) (.tmp 4) (by rfl) Try.underlying25 infoMark (by rfl) (by decide) mrkC_len (by rfl) (S.own_ 0 rfl) (S.nodup_own 0 rfl) (by rfl) hsr.1 (S.own_ 1 rfl) hsr.2 (S.nodup_own 1 rfl) S.apart (by omega) (by omega) ?_
       intro A3 c3 w3 fp3 o3 n3 s3 t3))
  have H := Lib.hid (S.merge t3 o3 n3 s3 hgc.out.size).first
  have C := Lib.hid (hgc.out.trans (S.below 0 rfl t3 hgc.out.size))
  clear S o3 n3 s3 t3 hgc hsr
  go_ret
  exact ⟨_, _, rfl, H.out, C.out⟩
set_option maxHeartbeats 6400000 in
theorem sSameMs_any (A A2 : Option Addr) (n c n2 c2 B B2 : Nat) (l r : List MarkM) (w : World) (h : Rd w B [mrkD l] [.slice A n c]) (h2 : Rd w B2 [mrkD r] [.slice A2 n2 c2]) (hB : B ≤ w.heap.size) (hB2 : B2 ≤ w.heap.size) (hs : mrkSz l ≤ 1048577) (hs2 : mrkSz r ≤ 1048577) :
    Calls Try.prog 33 #[.slice A n c, .slice A2 n2 c2] w fun e w' => e = .returned (.bool (sameMs l r)) ∧ Below w.heap.size w w' := by
  obtain ⟨_, _, _, e, hl, _, _, hel⟩ := h.mrks
  injection e with e1 e2 e3
  subst e1 e2 e3
  obtain ⟨_, _, _, e, hl2, _, _, hel2⟩ := h2.mrks
  injection e with e1 e2 e3
  subst e1 e2 e3
  have hn : n ≤ 1048577 := by unfold mrkSz at hs; omega
  have hn2 : n2 ≤ 1048577 := by unfold mrkSz at hs2; omega
  have HL := Lib.hid hl
  have HL2 := Lib.hid hl2
  clear h h2 hs hs2 hl hl2
  by_cases hnn : n = n2
  case neg =>
    have HD := Lib.hid (sameMs_len (l := l) (r := r) (by rw [HL.out, HL2.out]; exact hnn))
    have e1 : ((n : Int) != (n2 : Int)) = true := by simp; omega
    have e2 : ((n : Int) == (n2 : Int)) = false := by simp; omega
    clear hel hel2
    go_enter Try.func33, Try.ntmps33
    go_wp2
    go_ret
    exact ⟨ret_bool HD.out.symm, Below.refl _ _⟩
  case pos =>
    subst hnn
    have e1 : ((n : Int) != (n : Int)) = false := by simp
    go_enter Try.func33, Try.ntmps33
    go_wp2
    go_loopw [5] (fun i wr => ∃ j : Nat, j ≤ n ∧ i = .int .i64 (j : Int) ∧ (∀ q, q < j → l.getD q mark0 = r.getD q mark0) ∧ Below w.heap.size w wr) (fun i _ => n - (intOf i).toNat)
    case atStart => exact ⟨0, Nat.zero_le _, rfl, fun q hq => absurd hq (by omega), Below.refl _ _⟩
    case round =>
      obtain ⟨j, hj, rfl, hall, c0⟩ := hrel
      have HA := Lib.hid hall
      clear hall
      by_cases hlt : j < n
      case neg =>
        obtain rfl : j = n := by omega
        have HD := Lib.hid (show sameMs l r = true from (sameMs_iff l r).2 (List.ext_getElem (by rw [HL.out, HL2.out]) fun q h1 h2 => by have h9 := HA.out q (by have := HL.out; omega); rwa [mgetD h1, mgetD h2] at h9))
        have CC := Lib.hid c0
        clear hel hel2 c0
        go_wp2
        go_ret
        exact ⟨ret_bool HD.out.symm, CC.out⟩
      case pos =>
      have hjl : j < l.length := by have := HL.out; omega
      have hjr : j < r.length := by have := HL2.out; omega
      obtain ⟨b, off, rfl, hb, hcA⟩ := hel (by omega)
      obtain ⟨b2, off2, rfl, hb2, hcB⟩ := hel2 (by omega)
      obtain ⟨hc0, hc1, hc2⟩ := hcA j hjl
      obtain ⟨hd0, hd1, hd2⟩ := hcB j hjr
      have cs0 := (c0.cell (p := ⟨b, off + j * 3, none⟩) (show b < _ by omega)).trans hc0
      have ct0 := (c0.cell (p := ⟨b2, off2 + j * 3, none⟩) (show b2 < _ by omega)).trans hd0
      have cs1 := (c0.cell (p := ⟨b, off + j * 3 + 1, none⟩) (show b < _ by omega)).trans hc1
      have ct1 := (c0.cell (p := ⟨b2, off2 + j * 3 + 1, none⟩) (show b2 < _ by omega)).trans hd1
      have cs2 := (c0.cell (p := ⟨b, off + j * 3 + 2, none⟩) (show b < _ by omega)).trans hc2
      have ct2 := (c0.cell (p := ⟨b2, off2 + j * 3 + 2, none⟩) (show b2 < _ by omega)).trans hd2
      obtain ⟨z0, hz0⟩ : ∃ q, q = l[j].mc := ⟨_, rfl⟩
      rw [← hz0] at cs0
      obtain ⟨y0, hy0⟩ : ∃ q, q = r[j].mc := ⟨_, rfl⟩
      rw [← hy0] at ct0
      obtain ⟨z1, hz1⟩ : ∃ q, q = l[j].ms := ⟨_, rfl⟩
      rw [← hz1] at cs1
      obtain ⟨y1, hy1⟩ : ∃ q, q = r[j].ms := ⟨_, rfl⟩
      rw [← hy1] at ct1
      obtain ⟨z2, hz2⟩ : ∃ q, q = l[j].mi := ⟨_, rfl⟩
      rw [← hz2] at cs2
      obtain ⟨y2, hy2⟩ : ∃ q, q = r[j].mi := ⟨_, rfl⟩
      rw [← hy2] at ct2
      have hm1 : l[j] = ⟨z0, z1, z2⟩ := by rw [hz0, hz1, hz2]
      have hm2 : r[j] = ⟨y0, y1, y2⟩ := by rw [hy0, hy1, hy2]
      have HC := Lib.hid c0
      by_cases he : l[j] = r[j]
      case pos =>
        rw [hm1, hm2] at he
        injection he with q0 q1 q2
        have HN := Lib.hid (show ∀ q, q < j + 1 → l.getD q mark0 = r.getD q mark0 from fun q hq => by
          rcases Nat.lt_or_ge q j with h1 | h1
          · exact HA.out q h1
          · obtain rfl : q = j := by omega
            rw [mgetD hjl, mgetD hjr, hm1, hm2, q0, q1, q2])
        clear hcA hcB hel hel2 hm1 hm2 hz0 hy0 hc0 hd0 hz1 hy1 hc1 hd1 hz2 hy2 hc2 hd2
        subst q0 q1 q2
        go_wp2_with fail
        go_quiet (fail)
        have CC := Lib.hid (below_drewN HC.out nq)
        clear c0 cs0 ct0 cs1 ct1 cs2 ct2
        generalize wr.drewN nq = w9 at *
        go_wp2
        go_roundw
        case rel => exact ⟨j + 1, by omega, by go_num, HN.out, CC.out⟩
        case measure => simp [intOf]; omega
      case neg =>
        have HD := Lib.hid (sameMs_step (l := l) (r := r) (j := j) (by rw [Bool.eq_false_iff]; intro h9; exact he (by have h8 := (sameM_iff _ _).1 h9; rwa [mgetD hjl, mgetD hjr] at h8)))
        have hne : ¬ (z0 = y0 ∧ z1 = y1 ∧ z2 = y2) := fun h9 => he (by rw [hm1, hm2]; obtain ⟨q0, q1, q2⟩ := h9; rw [q0, q1, q2])
        clear he hm1 hm2 hcA hcB hel hel2 hz0 hy0 hc0 hd0 hz1 hy1 hc1 hd1 hz2 hy2 hc2 hd2
        by_cases q0 : z0 = y0
        case neg =>
          have e3 : (z0 == y0) = false := by simpa using q0
          clear hne q0
          go_wp2_with fail
          go_quiet (fail)
          have CC := Lib.hid (below_drewN HC.out nq)
          go_wp2
          go_ret
          exact ⟨ret_bool HD.out.symm, CC.out⟩
        subst q0
        by_cases q1 : z1 = y1
        case neg =>
          have e4 : (z1 == y1) = false := by simpa using q1
          clear hne q1
          go_wp2_with fail
          go_quiet (fail)
          have CC := Lib.hid (below_drewN HC.out nq)
          go_wp2
          go_ret
          exact ⟨ret_bool HD.out.symm, CC.out⟩
        subst q1
        by_cases q2 : z2 = y2
        case neg =>
          have e5 : (z2 == y2) = false := by simpa using q2
          clear hne q2
          go_wp2_with fail
          go_quiet (fail)
          have CC := Lib.hid (below_drewN HC.out nq)
          go_wp2
          go_ret
          exact ⟨ret_bool HD.out.symm, CC.out⟩
        subst q2
        exact absurd ⟨rfl, rfl, rfl⟩ hne

end Go.Proofs.Ytlhmolomefbklaa

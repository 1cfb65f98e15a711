/-
  Chapter 5: where a link lies among the cuts, in the model (by program, wip/gen/gennetc.py).
-/
import Derived.Test.YtdcdcccdihhhcaaNetM
import Derived.RegionTactic
import Derived.BigQuiet
namespace Go.Proofs.Ytdcdcccdihhhcaa
set_option maxRecDepth 100000
open Go.RowKit

theorem eqIx_is {c : List LinkM} {l : LinkM} {j : Nat} (hj : j < c.length) (h1 : ∀ i (hi : i < c.length), i < j → linkEq c[i] l = false) (h2 : linkEq c[j] l = true) : eqIx c l = j :=
  firstNot_eq _ c j (Nat.le_of_lt hj) (fun i hi hlt => by rw [h1 i hi hlt]; rfl) (fun _ => by rw [h2]; rfl)
theorem eqIx_none {c : List LinkM} {l : LinkM} (h1 : ∀ i (hi : i < c.length), linkEq c[i] l = false) : eqIx c l = c.length :=
  firstNot_eq _ c c.length (Nat.le_refl _) (fun i hi _ => by rw [h1 i hi]; rfl) (fun h => absurd h (Nat.lt_irrefl _))
theorem specAt_is {c : List LinkM} {l : LinkM} {j : Nat} (hj : j < c.length) (h1 : ∀ i (hi : i < c.length), i < j → linkEq c[i] l = false) (h2 : linkEq c[j] l = true) : specAt c l = (j : Int) := by
  unfold specAt
  rw [eqIx_is hj h1 h2, if_pos hj]
theorem specAt_none {c : List LinkM} {l : LinkM} (h1 : ∀ i (hi : i < c.length), linkEq c[i] l = false) : specAt c l = -1 := by
  unfold specAt
  rw [eqIx_none h1, if_neg (Nat.lt_irrefl _)]

set_option maxHeartbeats 3200000 in
theorem sCutAt_any (v0 v1 : Value) (t : NetM) (x y : Int) (B : Nat) (w : World) (h : Rd w B t.cells [v0, v1]) (hB : B ≤ w.heap.size) (hs : t.sz ≤ 1048577) :
    Calls Try.prog 86 #[.agg #[v0, v1], .int .i64 x, .int .i64 y] w fun e w' => e = .returned (.int .i64 (specAt t.cuts (linkOf x y))) ∧ Below w.heap.size w w' := by
  obtain ⟨A0, n0, c0, A1, n1, c1, rfl, rfl, hr0, hr1⟩ := h.netT
  have hz1 : linkSz t.cuts ≤ 1048577 := by unfold NetM.sz at hs; omega
  obtain ⟨_, _, _, e, hl, _, _, hel⟩ := hr1.links
  injection e with e1 e2 e3
  subst e1 e2 e3
  have hn : n1 ≤ 1048577 := by unfold linkSz at hz1; omega
  have HL := Lib.hid hl
  clear h hr0 hr1 hl hs hz1
  obtain ⟨l, hlk⟩ : ∃ l, l = linkOf x y := ⟨_, rfl⟩
  rw [← hlk]
  have HK := Lib.hid hlk
  have S0 := Lib.hid ((Sep.nil w w.heap.size).boxAt (Nat.le_refl _) w.heap.size rfl #[.slice A0 n0 c0, .slice A1 n1 c1] 30)
  have B0 := Lib.hid ((Below.refl w.heap.size w).alloc (Nat.le_refl _) (.cells #[.slice A0 n0 c0, .slice A1 n1 c1] 30))
  clear hlk
  go_enter Try.func86, Try.ntmps86
  go_wp2
  go_loopw [7] (fun i wr => ∃ j : Nat, j ≤ n1 ∧ i = .int .i64 (j : Int) ∧ (∀ q (hq : q < t.cuts.length), q < j → linkEq t.cuts[q] l = false) ∧ Sep wr w.heap.size [.blk w.heap.size #[.slice A0 n0 c0, .slice A1 n1 c1] 30] ∧ Below w.heap.size w wr) (fun i _ => n1 - (intOf i).toNat)
  case atStart => exact ⟨0, Nat.zero_le _, rfl, fun q _ hq => absurd hq (by omega), S0.out, B0.out⟩
  case round =>
    obtain ⟨j, hj, rfl, hall, S, c⟩ := hrel
    clear S0 B0
    have k0 : wr.cell? ⟨w.heap.size, 0, none⟩ = some (.slice A0 n0 c0) := (S.at_ 0 rfl).cell 0
    have k1 : wr.cell? ⟨w.heap.size, 1, none⟩ = some (.slice A1 n1 c1) := (S.at_ 0 rfl).cell 1
    by_cases hlt : j < n1
    · obtain ⟨b1, off, rfl, hb, hc⟩ := hel (by omega)
      have hjl : j < t.cuts.length := by have := HL.out; omega
      obtain ⟨hc0, hc1⟩ := hc j hjl
      have cs0 := (c.cell (p := ⟨b1, off + j * 2, none⟩) (show b1 < _ by omega)).trans hc0
      have cs1 := (c.cell (p := ⟨b1, off + j * 2 + 1, none⟩) (show b1 < _ by omega)).trans hc1
      obtain ⟨x0, hx0⟩ : ∃ q, q = t.cuts[j].a := ⟨_, rfl⟩
      obtain ⟨x1, hx1⟩ : ∃ q, q = t.cuts[j].b := ⟨_, rfl⟩
      rw [← hx0] at cs0
      rw [← hx1] at cs1
      have hmk : t.cuts[j] = ⟨x0, x1⟩ := by rw [hx0, hx1]
      have HM := Lib.hid hmk
      have HA := Lib.hid hall
      have C := Lib.hid c
      have SH := Lib.hid S
      have zb := c.size
      have i0 : (0 : Int) ≤ (j : Int) := by omega
      have i1 : (j : Int) < (n1 : Int) := by omega
      clear hx0 hx1 hmk hc hc0 hc1 hel hall c S
      obtain ⟨la, lb⟩ := l
      by_cases h0 : x0 = la
      case' neg => have hf : ¬ (x0 = la ∧ x1 = lb) := fun h => h0 h.1
      case' pos =>
        by_cases h1 : x1 = lb
        case' neg => have hf : ¬ (x0 = la ∧ x1 = lb) := fun h => h1 h.2
      case pos =>
        subst h0 h1
        have HE := Lib.hid (specAt_is hjl HA.out (by rw [HM.out]; exact linkEq_refl _))
        go_wp2_with fail
        go_region_with (first
          | (go_at_call 95
             refine (sLink_any x y _).mono ?_
             rintro e w1 ⟨rfl, b⟩
             rw [← HK.out]
             have CC := Lib.hid (C.out.drew.trans (b.mono C.out.drew.size))
             have SS := Lib.hid ((SH.out.keep ((Below.refl _ _).drew)).keep b)
             have k0' : w1.cell? ⟨w.heap.size, 0, none⟩ = some (.slice A0 n0 c0) := (SS.out.at_ 0 rfl).cell 0
             have k1' : w1.cell? ⟨w.heap.size, 1, none⟩ = some (.slice (some ⟨b1, off, none⟩) n1 c1) := (SS.out.at_ 0 rfl).cell 1
             have hbw : b1 < wr.heap.size := by omega
             have cv0 : w1.cell? ⟨b1, off + j * 2, none⟩ = some (.int .i64 x0) := (b.cell (p := ⟨b1, off + j * 2, none⟩) hbw).trans cs0
             have cv1 : w1.cell? ⟨b1, off + j * 2 + 1, none⟩ = some (.int .i64 x1) := (b.cell (p := ⟨b1, off + j * 2 + 1, none⟩) hbw).trans cs1
             clear b))
        all_goals
          go_wp2
          go_ret
          exact ⟨ret_i64 HE.out.symm, CC.out⟩
      all_goals
        have HN := Lib.hid (show ∀ q (hq : q < t.cuts.length), q < j + 1 → linkEq t.cuts[q] ⟨la, lb⟩ = false from fun q hq hlt2 => by
          by_cases e : q = j
          · subst e
            rw [HM.out]
            rw [Bool.eq_false_iff]
            intro hh
            have := (linkEq_iff _ _).1 hh
            injection this with g0 g1
            exact hf ⟨g0, g1⟩
          · exact HA.out q hq (by omega))
        clear hf
        go_wp2_with fail
        go_region_with (first
          | (go_at_call 95
             refine (sLink_any x y _).mono ?_
             rintro e w1 ⟨rfl, b⟩
             rw [← HK.out]
             have CC := Lib.hid (C.out.drew.trans (b.mono C.out.drew.size))
             have SS := Lib.hid ((SH.out.keep ((Below.refl _ _).drew)).keep b)
             have k0' : w1.cell? ⟨w.heap.size, 0, none⟩ = some (.slice A0 n0 c0) := (SS.out.at_ 0 rfl).cell 0
             have k1' : w1.cell? ⟨w.heap.size, 1, none⟩ = some (.slice (some ⟨b1, off, none⟩) n1 c1) := (SS.out.at_ 0 rfl).cell 1
             have hbw : b1 < wr.heap.size := by omega
             have cv0 : w1.cell? ⟨b1, off + j * 2, none⟩ = some (.int .i64 x0) := (b.cell (p := ⟨b1, off + j * 2, none⟩) hbw).trans cs0
             have cv1 : w1.cell? ⟨b1, off + j * 2 + 1, none⟩ = some (.int .i64 x1) := (b.cell (p := ⟨b1, off + j * 2 + 1, none⟩) hbw).trans cs1
             clear b))
        all_goals
          go_wp2
          go_roundw
          case rel => exact ⟨j + 1, by omega, by go_num, HN.out, SS.out, CC.out⟩
          case measure => simp [intOf]; omega
    · have HE := Lib.hid (specAt_none (c := t.cuts) (l := l) (fun q hq => hall q hq (by have := HL.out; omega)))
      have C := Lib.hid c
      clear hel hall c S
      go_wp2
      go_ret
      exact ⟨ret_i64 HE.out.symm, C.out⟩

end Go.Proofs.Ytdcdcccdihhhcaa

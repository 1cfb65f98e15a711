/-
  Chapter 5: the laws' own comparison of letters, at equal ones (by program, wip/gen/gennetw.py).
-/
import Derived.Test.YthcagdcbifdfeaaNetC1
import Derived.Test.YthcagdcbifdfeaaNetC2
import Derived.Test.YthcagdcbifdfeaaNetC3
import Derived.Test.YthcagdcbifdfeaaNetC4
import Derived.Test.YthcagdcbifdfeaaCls
import Derived.Test.YthcagdcbifdfeaaLike
import Derived.RegionTactic
import Derived.BigQuiet
namespace Go.Proofs.Ythcagdcbifdfeaa
set_option maxRecDepth 100000
open Go.RowKit

set_option maxHeartbeats 1600000 in
theorem wLetter_yes (x0 x1 : Int) (A A' : Option Addr) (n c c' B B' : Nat) (xs : List Int) (w : World) (h : IRow w B A n xs) (h' : IRow w B' A' n xs) (hB : B ≤ w.heap.size) (hB' : B' ≤ w.heap.size) (hn : n ≤ 1048577) :
    Calls Try.prog 23 #[.agg #[.int .i64 x0, .int .i64 x1, .slice A n c], .agg #[.int .i64 x0, .int .i64 x1, .slice A' n c']] w fun e w' => e = .returned (.bool true) ∧ Below w.heap.size w w' := by
  have b0 : Below w.heap.size w ((w.alloc (.cells #[.int .i64 x0, .int .i64 x1, .slice A n c] 37)).alloc (.cells #[.int .i64 x0, .int .i64 x1, .slice A' n c'] 37)) := ((Below.refl _ w).alloc (Nat.le_refl _) _).alloc (by simp) _
  have h0 := h.below (b0.mono hB)
  have h0' := h'.below (b0.mono hB')
  have B0 := Lib.hid b0
  clear h h' b0
  go_enter Try.func23, Try.ntmps23
  go_wp2_with (first | (go_at_call 32; refine (like_yes A A' n c c' B B' xs _ h0 h0' hn).mono ?_; rintro e w1 ⟨rfl, dd⟩))
  have C := Lib.hid (B0.out.trans (dd.below _))
  clear dd
  go_ret
  exact ⟨rfl, C.out⟩

set_option maxHeartbeats 6400000 in
theorem wLetters_yes (A A' : Option Addr) (n n' cc cc' : Nat) (l : List MsgM) (B B' : Nat) (w : World) (h : Rd w B [msgD l] [.slice A n cc]) (h' : Rd w B' [msgD l] [.slice A' n' cc']) (hB : B ≤ w.heap.size) (hB' : B' ≤ w.heap.size) (hs : msgSz l ≤ 1048577) :
    Calls Try.prog 28 #[.slice A n cc, .slice A' n' cc'] w fun e w' => e = .returned (.bool true) ∧ Below w.heap.size w w' := by
  obtain ⟨_, _, _, e, hl, _, _, hel⟩ := h.msgs
  injection e with e1 e2 e3
  subst e1 e2 e3
  obtain ⟨_, _, _, e, hl', _, _, hel'⟩ := h'.msgs
  injection e with e1 e2 e3
  subst e1 e2 e3
  obtain rfl : n = n' := by rw [← hl, ← hl']
  have hn : n ≤ 1048577 := by unfold msgSz at hs; omega
  have HS := Lib.hid hs
  have HL := Lib.hid hl
  have HL' := Lib.hid hl'
  clear h h' hl hl' hs
  go_enter Try.func28, Try.ntmps28
  go_wp2
  go_loopw [5] (fun i wr => ∃ j : Nat, j ≤ n ∧ i = .int .i64 (j : Int) ∧ Below w.heap.size w wr) (fun i _ => n - (intOf i).toNat)
  case atStart => exact ⟨0, Nat.zero_le _, rfl, Below.refl _ _⟩
  case round =>
    obtain ⟨j, hj, rfl, c⟩ := hrel
    by_cases hlt : j < n
    · obtain ⟨b, off, rfl, hb, hc⟩ := hel (by omega)
      have hjl : j < l.length := by have := HL.out; omega
      obtain ⟨A1, m1, d1, hc0, hc1, hc2, hrow, _⟩ := hc j hjl
      have cs0 := (c.cell (p := ⟨b, off + j * 3, none⟩) (show b < _ by omega)).trans hc0
      have cs1 := (c.cell (p := ⟨b, off + j * 3 + 1, none⟩) (show b < _ by omega)).trans hc1
      have cs2 := (c.cell (p := ⟨b, off + j * 3 + 2, none⟩) (show b < _ by omega)).trans hc2
      have hm1 : m1 ≤ 1048577 := by
        have h1 := pre_at (g := msgRowSz) hjl
        have h2 := HS.out
        have h3 := hrow.1
        have h4 : msgRowSz l[j] = l[j].row.length := rfl
        unfold msgSz at h2
        omega
      obtain ⟨x0, hx0⟩ : ∃ q, q = l[j].frm := ⟨_, rfl⟩
      obtain ⟨x1, hx1⟩ : ∃ q, q = l[j].dest := ⟨_, rfl⟩
      obtain ⟨xr, hxr⟩ : ∃ q, q = l[j].row := ⟨_, rfl⟩
      rw [← hx0] at cs0
      rw [← hx1] at cs1
      rw [← hxr] at hrow
      have hmk : l[j] = ⟨x0, x1, xr⟩ := by rw [hx0, hx1, hxr]
      obtain ⟨b', off', rfl, hb', hc'⟩ := hel' (by omega)
      have hjl' : j < l.length := by have := HL'.out; omega
      obtain ⟨A1', m1', d1', hc0', hc1', hc2', hrow', _⟩ := hc' j hjl'
      have cs0' := (c.cell (p := ⟨b', off' + j * 3, none⟩) (show b' < _ by omega)).trans hc0'
      have cs1' := (c.cell (p := ⟨b', off' + j * 3 + 1, none⟩) (show b' < _ by omega)).trans hc1'
      have cs2' := (c.cell (p := ⟨b', off' + j * 3 + 2, none⟩) (show b' < _ by omega)).trans hc2'
      have hm1' : m1' ≤ 1048577 := by
        have h1 := pre_at (g := msgRowSz) hjl'
        have h2 := HS.out
        have h3 := hrow'.1
        have h4 : msgRowSz l[j] = l[j].row.length := rfl
        unfold msgSz at h2
        omega
      rw [← hx0] at cs0'
      rw [← hx1] at cs1'
      rw [← hxr] at hrow'
      obtain rfl : m1 = m1' := by rw [← hrow.1, ← hrow'.1]
      have hr := hrow.below (c.mono hB)
      have hr' := hrow'.below (c.mono hB')
      have i0 : (0 : Int) ≤ (j : Int) := by omega
      have i1 : (j : Int) < (n : Int) := by omega
      have hBr := Nat.le_trans hB c.size
      have hBr' := Nat.le_trans hB' c.size
      clear hx0 hx1 hxr hmk hc hc0 hc1 hc2 hrow hel hc' hc0' hc1' hc2' hrow' hel'
      go_wp2_with fail
      refine wp_region_cls (fun v => v.cell? ⟨b, off + j * 3, none⟩ = some (.int .i64 x0) ∧ v.cell? ⟨b, off + j * 3 + 1, none⟩ = some (.int .i64 x1) ∧ v.cell? ⟨b, off + j * 3 + 2, none⟩ = some (.slice A1 m1 d1) ∧ v.cell? ⟨b', off' + j * 3, none⟩ = some (.int .i64 x0) ∧ v.cell? ⟨b', off' + j * 3 + 1, none⟩ = some (.int .i64 x1) ∧ v.cell? ⟨b', off' + j * 3 + 2, none⟩ = some (.slice A1' m1 d1') ∧ IRow v B A1 m1 xr ∧ IRow v B' A1' m1 xr ∧ B ≤ v.heap.size ∧ B' ≤ v.heap.size) (by kernel_rfl) (by kernel_rfl) (fun v hv => ⟨(hv.cell (p := ⟨b, off + j * 3, none⟩) (lt_of_cell cs0)).trans cs0, (hv.cell (p := ⟨b, off + j * 3 + 1, none⟩) (lt_of_cell cs1)).trans cs1, (hv.cell (p := ⟨b, off + j * 3 + 2, none⟩) (lt_of_cell cs2)).trans cs2, (hv.cell (p := ⟨b', off' + j * 3, none⟩) (lt_of_cell cs0')).trans cs0', (hv.cell (p := ⟨b', off' + j * 3 + 1, none⟩) (lt_of_cell cs1')).trans cs1', (hv.cell (p := ⟨b', off' + j * 3 + 2, none⟩) (lt_of_cell cs2')).trans cs2', hr.below (hv.mono hBr), hr'.below (hv.mono hBr'), Nat.le_trans hBr hv.size, Nat.le_trans hBr' hv.size⟩) ?_
      intro C HF HC
      repeat
        (refine wpQuiet_step (fun K hK => ?_)
         go_simp
         first
           | (refine hK _ ?_; clear hK K)
           | (apply Exists.intro
              refine ⟨fun v hv => ?_, hK _ ?_⟩
              · obtain ⟨a0, a1, a2, a3, a4, a5, a6, a7, a8, a9⟩ := HF v hv
                first
                  | (go_at_call 23; exact Calls.cls HC hv (wLetter_yes x0 x1 A1 A1' m1 d1 d1' B B' xr v a6 a7 a8 a9 hm1) rfl)
                  | exact rfl
                  | (go_simp; exact rfl)
                  | (go_simp; exact ⟨rfl, hv⟩)
              clear hK K))
      refine wpQuiet_nil ?_
      intro w9 b9
      have CC := Lib.hid (c.trans (b9.mono c.size))
      clear c b9 hr hr' cs0 cs1 cs2 cs0' cs1' cs2'
      go_wp2
      go_roundw
      case rel => exact ⟨j + 1, by omega, by go_num, CC.out⟩
      case measure => simp [intOf]; omega
    · have CC := Lib.hid c
      clear hel hel' c
      go_wp2
      go_ret
      exact ⟨rfl, CC.out⟩

end Go.Proofs.Ythcagdcbifdfeaa

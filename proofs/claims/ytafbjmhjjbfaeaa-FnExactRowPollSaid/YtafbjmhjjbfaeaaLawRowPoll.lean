/-
  Exact laws, over open contracts: whatever program function meets the model's contract, the law answers true and writes nothing that was there. Made by program (wip/lawgen.py).
-/
import Derived.Test.YtafbjmhjjbfaeaaKA
import Derived.Deep.RegionHeld3
namespace Go.Proofs.Ytafbjmhjjbfaeaa
set_option maxRecDepth 100000
open Go.RowKit

set_option maxHeartbeats 12800000 in
theorem lawRowPoll (f : List Int → Int × Bool)
    (hs : ∀ (Aa0_0 : Option Addr) (na0_0 ca0_0 : Nat) (d0 : List Int) (w : World), Rd w w.heap.size (rowCells d0) [.slice Aa0_0 na0_0 ca0_0] → d0.length ≤ 1048576 → Calls Try.prog 14 #[.slice Aa0_0 na0_0 ca0_0] w (fun e w' => e = .returned (.tuple #[.int .i64 (f d0).1, .bool (f d0).2]) ∧ Below w.heap.size w w'))
    (hi : ∀ (Aa0_0 : Option Addr) (na0_0 ca0_0 : Nat) (d0 : List Int) (w : World), Rd w w.heap.size (rowCells d0) [.slice Aa0_0 na0_0 ca0_0] → d0.length ≤ 1048576 → Calls Try.prog 16 #[.slice Aa0_0 na0_0 ca0_0] w (fun e w' => e = .returned (.tuple #[.int .i64 (f d0).1, .bool (f d0).2]) ∧ Below w.heap.size w w'))
    (Aa0_0 : Option Addr) (na0_0 ca0_0 : Nat) (d0 : List Int) (w : World) (h0 : Rd w w.heap.size (rowCells d0) [.slice Aa0_0 na0_0 ca0_0]) :
    Calls Try.prog 4 #[.slice Aa0_0 na0_0 ca0_0] w fun e w' => e = .returned (.bool true) ∧ Below w.heap.size w w' := by
  have SP := Lib.hid hs
  have IM := Lib.hid hi
  clear hs hi
  have len0 : na0_0 = d0.length := by
    obtain ⟨_, _, _, e, hh, _⟩ := h0.irow
    injection e with e1 e2 e3
    subst e2
    exact hh.1.symm
  have mx0 : na0_0 ≤ maxLen := by
    obtain ⟨_, _, _, e, _, h1, h2⟩ := h0.irow
    injection e with e1 e2 e3
    subst e2 e3
    exact Nat.le_trans h1 h2
  unfold maxLen at mx0
  have S := Sep.nil w w.heap.size
  have c := Below.refl w.heap.size w
  by_cases hbig0 : 1048576 < na0_0
  case pos =>
    go_enter Try.func4, Try.ntmps4
    go_wp2
    go_ret
    exact ⟨rfl, c⟩
  have hz0 : d0.length ≤ 1048576 := by omega
  have LE0 := Lib.hid len0
  clear len0
  go_enter Try.func4, Try.ntmps4
  obtain ⟨fx0, hfx0⟩ : ∃ q, q = (f d0).1 := ⟨_, rfl⟩
  have HFX0 := Lib.hid hfx0
  clear hfx0
  obtain ⟨fx1, hfx1⟩ : ∃ q, q = (f d0).2 := ⟨_, rfl⟩
  have HFX1 := Lib.hid hfx1
  clear hfx1
  go_wp2_with fail
  refine (toI_made _ _ _ d0 _ ((h0.keep c).up c.size) hz0).mono ?_
  rintro e w1 ⟨As0_0, ns0_0, cs0_0, rfl, o, b⟩
  obtain ⟨fp_s0, S'⟩ := S.has b o c.size
  replace c := c.trans (b.mono c.size)
  clear S; have S := S'; clear S' o b
  go_wp2_with fail
  refine (SP.out _ _ _ d0 _ ((S.own_ 0 rfl).rd) hz0).mono ?_
  rintro e w2 ⟨rfl, b⟩
  replace c := c.trans (b.mono c.size)
  replace S := S.keep b
  clear b
  rw [← HFX0.out]
  rw [← HFX1.out]
  go_wp2_with fail
  refine (toI_made _ _ _ d0 _ ((h0.keep c).up c.size) hz0).mono ?_
  rintro e w3 ⟨Ax0_0, nx0_0, cx0_0, rfl, o, b⟩
  obtain ⟨fp_x0, S'⟩ := S.has b o c.size
  replace c := c.trans (b.mono c.size)
  clear S; have S := S'; clear S' o b
  go_wp2_with fail
  refine (IM.out _ _ _ d0 _ ((S.own_ 0 rfl).rd) hz0).mono ?_
  rintro e w4 ⟨rfl, b⟩
  replace c := c.trans (b.mono c.size)
  replace S := S.keep b
  clear b
  rw [← HFX0.out]
  rw [← HFX1.out]
  go_wp2_with fail
  refine (toI_made _ _ _ d0 _ ((h0.keep c).up c.size) hz0).mono ?_
  rintro e w5 ⟨Az0_0, nz0_0, cz0_0, rfl, o, b⟩
  obtain ⟨fp_z0, S'⟩ := S.has b o c.size
  replace c := c.trans (b.mono c.size)
  clear S; have S := S'; clear S' o b
  go_wp2_with fail
  refine (eqI_yes _ _ _ _ _ _ _ _ d0 _ ((S.own_ 1 rfl).rd) ((S.own_ 0 rfl).rd) (by omega)).mono ?_
  rintro e w6 ⟨rfl, b⟩
  replace c := c.trans (b.mono c.size)
  replace S := S.keep b
  clear b
  go_wp2
  go_ret
  exact ⟨rfl, c⟩

end Go.Proofs.Ytafbjmhjjbfaeaa

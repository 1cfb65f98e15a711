/-
  Exact laws, over open contracts: whatever program function meets the model's contract, the law answers true and writes nothing that was there. Made by program (wip/lawgen.py).
-/
import Derived.Test.YtlhmolomefbklaaMark
import Derived.Test.YtlhmolomefbklaaEnt
import Derived.Test.YtlhmolomefbklaaKA
import Derived.Deep.RegionHeld3
namespace Go.Proofs.Ytlhmolomefbklaa
set_option maxRecDepth 100000
open Go.RowKit

set_option maxHeartbeats 12800000 in
theorem lawMarkOf (f : List MarkM → Int → (MarkM))
    (hs : ∀ (Aa0_0 : Option Addr) (na0_0 ca0_0 : Nat) (d0 : List MarkM) (x1 : Int) (w : World), Rd w w.heap.size ([mrkD d0]) [.slice Aa0_0 na0_0 ca0_0] → (mrkSz d0) ≤ 1048576 → Calls Try.prog 15 #[.slice Aa0_0 na0_0 ca0_0, .int .i64 x1] w (fun e w' => e = .returned (.agg #[.int .i64 (f d0 x1).mc, .int .i64 (f d0 x1).ms, .int .i64 (f d0 x1).mi]) ∧ Below w.heap.size w w'))
    (hi : ∀ (Aa0_0 : Option Addr) (na0_0 ca0_0 : Nat) (d0 : List MarkM) (x1 : Int) (w : World), Rd w w.heap.size ([mrkD d0]) [.slice Aa0_0 na0_0 ca0_0] → (mrkSz d0) ≤ 1048576 → Calls Try.prog 16 #[.slice Aa0_0 na0_0 ca0_0, .int .i64 x1] w (fun e w' => e = .returned (.agg #[.int .i64 (f d0 x1).mc, .int .i64 (f d0 x1).ms, .int .i64 (f d0 x1).mi]) ∧ Below w.heap.size w w'))
    (Aa0_0 : Option Addr) (na0_0 ca0_0 : Nat) (d0 : List MarkM) (x1 : Int) (w : World) (h0 : Rd w w.heap.size ([mrkD d0]) [.slice Aa0_0 na0_0 ca0_0]) :
    Calls Try.prog 4 #[.slice Aa0_0 na0_0 ca0_0, .int .i64 x1] w fun e w' => e = .returned (.bool true) ∧ Below w.heap.size w w' := by
  have SP := Lib.hid hs
  have IM := Lib.hid hi
  clear hs hi
  have S := Sep.nil w w.heap.size
  have c := Below.refl w.heap.size w
  go_enter Try.func4, Try.ntmps4
  go_wp2_with fail
  refine (szMarkS_any _ _ _ d0 _ _ _ (h0.keep c) c.size (by omega) (by omega)).mono ?_
  rintro e w1 ⟨rfl, b⟩
  replace c := c.trans (b.mono c.size)
  replace S := S.keep b
  clear b
  by_cases hzi0 : (((mrkSz d0) : Nat) : Int) ≤ 1048576
  case neg =>
    rw [left, if_neg hzi0]
    go_wp2
    go_ret
    exact ⟨rfl, c⟩
  rw [left, if_pos hzi0]
  have hz0 : (mrkSz d0) ≤ 1048576 := by omega
  have qz0 : ¬ ((1048576 : Int) - ((mrkSz d0) : Int) < 0) := by omega
  obtain ⟨fx0_0, hfx0_0⟩ : ∃ q, q = (f d0 x1).mc := ⟨_, rfl⟩
  have HFX0_0 := Lib.hid hfx0_0
  clear hfx0_0
  obtain ⟨fx0_1, hfx0_1⟩ : ∃ q, q = (f d0 x1).ms := ⟨_, rfl⟩
  have HFX0_1 := Lib.hid hfx0_1
  clear hfx0_1
  obtain ⟨fx0_2, hfx0_2⟩ : ∃ q, q = (f d0 x1).mi := ⟨_, rfl⟩
  have HFX0_2 := Lib.hid hfx0_2
  clear hfx0_2
  go_wp2_with fail
  refine (toMarkS_made _ _ _ d0 _ ((h0.keep c).up c.size) hz0).mono ?_
  rintro e w2 ⟨As0_0, ns0_0, cs0_0, rfl, o, b⟩
  obtain ⟨fp_s0, S'⟩ := S.has b o c.size
  replace c := c.trans (b.mono c.size)
  clear S; have S := S'; clear S' o b
  go_wp2_with fail
  refine (SP.out _ _ _ d0 _ _ ((S.own_ 0 rfl).rd) hz0).mono ?_
  rintro e w3 ⟨rfl, b⟩
  replace c := c.trans (b.mono c.size)
  replace S := S.keep b
  clear b
  rw [← HFX0_0.out, ← HFX0_1.out, ← HFX0_2.out]
  replace S := S.box c.size #[.int .i64 fx0_0, .int .i64 fx0_1, .int .i64 fx0_2] 30
  replace c := c.alloc c.size (.cells #[.int .i64 fx0_0, .int .i64 fx0_1, .int .i64 fx0_2] 30)
  go_wp2_with fail
  generalize w3.alloc (.cells #[.int .i64 fx0_0, .int .i64 fx0_1, .int .i64 fx0_2] 30) = w4 at *
  refine (toMarkS_made _ _ _ d0 _ ((h0.keep c).up c.size) hz0).mono ?_
  rintro e w5 ⟨Ax0_0, nx0_0, cx0_0, rfl, o, b⟩
  obtain ⟨fp_x0, S'⟩ := S.has b o c.size
  replace c := c.trans (b.mono c.size)
  clear S; have S := S'; clear S' o b
  go_wp2_with fail
  refine (IM.out _ _ _ d0 _ _ ((S.own_ 0 rfl).rd) hz0).mono ?_
  rintro e w6 ⟨rfl, b⟩
  replace c := c.trans (b.mono c.size)
  replace S := S.keep b
  clear b
  rw [← HFX0_0.out, ← HFX0_1.out, ← HFX0_2.out]
  replace S := S.box c.size #[.int .i64 fx0_0, .int .i64 fx0_1, .int .i64 fx0_2] 30
  replace c := c.alloc c.size (.cells #[.int .i64 fx0_0, .int .i64 fx0_1, .int .i64 fx0_2] 30)
  have f0 : (w6.alloc (.cells #[.int .i64 fx0_0, .int .i64 fx0_1, .int .i64 fx0_2] 30)).cell? ⟨w6.heap.size, 0, none⟩ = some (.int .i64 fx0_0) := (S.at_ 0 rfl).cell 0
  have f1 : (w6.alloc (.cells #[.int .i64 fx0_0, .int .i64 fx0_1, .int .i64 fx0_2] 30)).cell? ⟨w6.heap.size, 1, none⟩ = some (.int .i64 fx0_1) := (S.at_ 0 rfl).cell 1
  have f2 : (w6.alloc (.cells #[.int .i64 fx0_0, .int .i64 fx0_1, .int .i64 fx0_2] 30)).cell? ⟨w6.heap.size, 2, none⟩ = some (.int .i64 fx0_2) := (S.at_ 0 rfl).cell 2
  have f3 : (w6.alloc (.cells #[.int .i64 fx0_0, .int .i64 fx0_1, .int .i64 fx0_2] 30)).cell? ⟨w3.heap.size, 0, none⟩ = some (.int .i64 fx0_0) := (S.at_ 2 rfl).cell 0
  have f4 : (w6.alloc (.cells #[.int .i64 fx0_0, .int .i64 fx0_1, .int .i64 fx0_2] 30)).cell? ⟨w3.heap.size, 1, none⟩ = some (.int .i64 fx0_1) := (S.at_ 2 rfl).cell 1
  have f5 : (w6.alloc (.cells #[.int .i64 fx0_0, .int .i64 fx0_1, .int .i64 fx0_2] 30)).cell? ⟨w3.heap.size, 2, none⟩ = some (.int .i64 fx0_2) := (S.at_ 2 rfl).cell 2
  go_wp2_with fail
  generalize w6.alloc (.cells #[.int .i64 fx0_0, .int .i64 fx0_1, .int .i64 fx0_2] 30) = w7 at *
  refine (eqMark_one fx0_0 fx0_1 fx0_2 _).mono ?_
  rintro e w8 ⟨rfl, b⟩
  replace c := c.trans (b.mono c.size)
  replace S := S.keep b
  clear b f0 f1 f2 f3 f4 f5
  go_wp2_with fail
  refine (toMarkS_made _ _ _ d0 _ ((h0.keep c).up c.size) hz0).mono ?_
  rintro e w9 ⟨Az0_0, nz0_0, cz0_0, rfl, o, b⟩
  obtain ⟨fp_z0, S'⟩ := S.has b o c.size
  replace c := c.trans (b.mono c.size)
  clear S; have S := S'; clear S' o b
  go_wp2_with fail
  refine (eqMarkS_yes _ _ _ _ _ _ _ _ d0 _ ((S.own_ 2 rfl).rd) ((S.own_ 0 rfl).rd) (Nat.le_refl _) (Nat.le_refl _) (by omega)).mono ?_
  rintro e w10 ⟨rfl, b⟩
  replace c := c.trans (b.mono c.size)
  replace S := S.keep b
  clear b
  go_wp2
  go_ret
  exact ⟨rfl, c⟩

end Go.Proofs.Ytlhmolomefbklaa

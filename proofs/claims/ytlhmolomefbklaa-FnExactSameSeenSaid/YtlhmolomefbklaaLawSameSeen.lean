/-
  Exact laws, over open contracts: whatever program function meets the model's contract, the law answers true and writes nothing that was there. Made by program (wip/lawgen.py).
-/
import Derived.Test.YtlhmolomefbklaaMark
import Derived.Test.YtlhmolomefbklaaEnt
import Derived.Test.YtlhmolomefbklaaKA
import Derived.Deep.RegionHeld3
namespace Go.Proofs.Ytlhmolomefbklaa
set_option maxRecDepth 100000
open Go.RowKit

set_option maxHeartbeats 12800000 in
theorem lawSameSeen (f : List MarkM → List MarkM → Bool)
    (hs : ∀ (Aa0_0 : Option Addr) (na0_0 ca0_0 : Nat) (d0 : List MarkM) (Aa1_0 : Option Addr) (na1_0 ca1_0 : Nat) (d1 : List MarkM) (w : World), Rd w w.heap.size ([mrkD d0]) [.slice Aa0_0 na0_0 ca0_0] → (mrkSz d0) ≤ 1048576 → Rd w w.heap.size ([mrkD d1]) [.slice Aa1_0 na1_0 ca1_0] → (mrkSz d1) ≤ 1048576 → Calls Try.prog 33 #[.slice Aa0_0 na0_0 ca0_0, .slice Aa1_0 na1_0 ca1_0] w (fun e w' => e = .returned (.bool (f d0 d1)) ∧ Below w.heap.size w w'))
    (hi : ∀ (Aa0_0 : Option Addr) (na0_0 ca0_0 : Nat) (d0 : List MarkM) (Aa1_0 : Option Addr) (na1_0 ca1_0 : Nat) (d1 : List MarkM) (w : World), Rd w w.heap.size ([mrkD d0]) [.slice Aa0_0 na0_0 ca0_0] → (mrkSz d0) ≤ 1048576 → Rd w w.heap.size ([mrkD d1]) [.slice Aa1_0 na1_0 ca1_0] → (mrkSz d1) ≤ 1048576 → Calls Try.prog 34 #[.slice Aa0_0 na0_0 ca0_0, .slice Aa1_0 na1_0 ca1_0] w (fun e w' => e = .returned (.bool (f d0 d1)) ∧ Below w.heap.size w w'))
    (Aa0_0 : Option Addr) (na0_0 ca0_0 : Nat) (d0 : List MarkM) (Aa1_0 : Option Addr) (na1_0 ca1_0 : Nat) (d1 : List MarkM) (w : World) (h0 : Rd w w.heap.size ([mrkD d0]) [.slice Aa0_0 na0_0 ca0_0]) (h1 : Rd w w.heap.size ([mrkD d1]) [.slice Aa1_0 na1_0 ca1_0]) :
    Calls Try.prog 9 #[.slice Aa0_0 na0_0 ca0_0, .slice Aa1_0 na1_0 ca1_0] w fun e w' => e = .returned (.bool true) ∧ Below w.heap.size w w' := by
  have SP := Lib.hid hs
  have IM := Lib.hid hi
  clear hs hi
  have S := Sep.nil w w.heap.size
  have c := Below.refl w.heap.size w
  go_enter Try.func9, Try.ntmps9
  go_wp2_with fail
  refine (szMarkS_any _ _ _ d0 _ _ _ (h0.keep c) c.size (by omega) (by omega)).mono ?_
  rintro e w1 ⟨rfl, b⟩
  replace c := c.trans (b.mono c.size)
  replace S := S.keep b
  clear b
  by_cases hzi0 : (((mrkSz d0) : Nat) : Int) ≤ 1048576
  case neg =>
    rw [left, if_neg hzi0]
    go_wp2
    go_ret
    exact ⟨rfl, c⟩
  rw [left, if_pos hzi0]
  have hz0 : (mrkSz d0) ≤ 1048576 := by omega
  have qz0 : ¬ ((1048576 : Int) - ((mrkSz d0) : Int) < 0) := by omega
  go_wp2_with fail
  refine (szMarkS_any _ _ _ d1 _ _ _ (h1.keep c) c.size (by omega) (by omega)).mono ?_
  rintro e w2 ⟨rfl, b⟩
  replace c := c.trans (b.mono c.size)
  replace S := S.keep b
  clear b
  by_cases hzi1 : (((mrkSz d1) : Nat) : Int) ≤ 1048576 - ((mrkSz d0) : Int)
  case neg =>
    rw [left, if_neg hzi1]
    go_wp2
    go_ret
    exact ⟨rfl, c⟩
  rw [left, if_pos hzi1]
  have hz1 : (mrkSz d1) ≤ 1048576 := by omega
  have qz1 : ¬ ((1048576 - ((mrkSz d0) : Int) : Int) - ((mrkSz d1) : Int) < 0) := by omega
  obtain ⟨fx0, hfx0⟩ : ∃ q, q = (f d0 d1) := ⟨_, rfl⟩
  have HFX0 := Lib.hid hfx0
  clear hfx0
  go_wp2_with fail
  refine (toMarkS_made _ _ _ d0 _ ((h0.keep c).up c.size) hz0).mono ?_
  rintro e w3 ⟨As0_0, ns0_0, cs0_0, rfl, o, b⟩
  obtain ⟨fp_s0, S'⟩ := S.has b o c.size
  replace c := c.trans (b.mono c.size)
  clear S; have S := S'; clear S' o b
  go_wp2_with fail
  refine (toMarkS_made _ _ _ d1 _ ((h1.keep c).up c.size) hz1).mono ?_
  rintro e w4 ⟨As1_0, ns1_0, cs1_0, rfl, o, b⟩
  obtain ⟨fp_s1, S'⟩ := S.has b o c.size
  replace c := c.trans (b.mono c.size)
  clear S; have S := S'; clear S' o b
  go_wp2_with fail
  refine (SP.out _ _ _ d0 _ _ _ d1 _ ((S.own_ 1 rfl).rd) hz0 ((S.own_ 0 rfl).rd) hz1).mono ?_
  rintro e w5 ⟨rfl, b⟩
  replace c := c.trans (b.mono c.size)
  replace S := S.keep b
  clear b
  rw [← HFX0.out]
  go_wp2_with fail
  refine (toMarkS_made _ _ _ d0 _ ((h0.keep c).up c.size) hz0).mono ?_
  rintro e w6 ⟨Ax0_0, nx0_0, cx0_0, rfl, o, b⟩
  obtain ⟨fp_x0, S'⟩ := S.has b o c.size
  replace c := c.trans (b.mono c.size)
  clear S; have S := S'; clear S' o b
  go_wp2_with fail
  refine (toMarkS_made _ _ _ d1 _ ((h1.keep c).up c.size) hz1).mono ?_
  rintro e w7 ⟨Ax1_0, nx1_0, cx1_0, rfl, o, b⟩
  obtain ⟨fp_x1, S'⟩ := S.has b o c.size
  replace c := c.trans (b.mono c.size)
  clear S; have S := S'; clear S' o b
  go_wp2_with fail
  refine (IM.out _ _ _ d0 _ _ _ d1 _ ((S.own_ 1 rfl).rd) hz0 ((S.own_ 0 rfl).rd) hz1).mono ?_
  rintro e w8 ⟨rfl, b⟩
  replace c := c.trans (b.mono c.size)
  replace S := S.keep b
  clear b
  rw [← HFX0.out]
  go_wp2_with fail
  refine (toMarkS_made _ _ _ d0 _ ((h0.keep c).up c.size) hz0).mono ?_
  rintro e w9 ⟨Az0_0, nz0_0, cz0_0, rfl, o, b⟩
  obtain ⟨fp_z0, S'⟩ := S.has b o c.size
  replace c := c.trans (b.mono c.size)
  clear S; have S := S'; clear S' o b
  go_wp2_with fail
  refine (eqMarkS_yes _ _ _ _ _ _ _ _ d0 _ ((S.own_ 2 rfl).rd) ((S.own_ 0 rfl).rd) (Nat.le_refl _) (Nat.le_refl _) (by omega)).mono ?_
  rintro e w10 ⟨rfl, b⟩
  replace c := c.trans (b.mono c.size)
  replace S := S.keep b
  clear b
  go_wp2_with fail
  refine (toMarkS_made _ _ _ d1 _ ((h1.keep c).up c.size) hz1).mono ?_
  rintro e w11 ⟨Az1_0, nz1_0, cz1_0, rfl, o, b⟩
  obtain ⟨fp_z1, S'⟩ := S.has b o c.size
  replace c := c.trans (b.mono c.size)
  clear S; have S := S'; clear S' o b
  go_wp2_with fail
  refine (eqMarkS_yes _ _ _ _ _ _ _ _ d1 _ ((S.own_ 2 rfl).rd) ((S.own_ 0 rfl).rd) (Nat.le_refl _) (Nat.le_refl _) (by omega)).mono ?_
  rintro e w12 ⟨rfl, b⟩
  replace c := c.trans (b.mono c.size)
  replace S := S.keep b
  clear b
  go_wp2
  go_ret
  exact ⟨rfl, c⟩

end Go.Proofs.Ytlhmolomefbklaa

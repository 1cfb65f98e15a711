/-
  Exact laws, over open contracts: whatever program function meets the model's contract, the law answers true and writes nothing that was there. Made by program (wip/lawgen.py).
-/
import Derived.Test.YtejcpoidoekleaaKT
import Derived.Test.YtejcpoidoekleaaKA
import Derived.Test.YtejcpoidoekleaaKD
import Derived.Deep.RegionHeld3
namespace Go.Proofs.Ytejcpoidoekleaa
set_option maxRecDepth 100000
open Go.RowKit

set_option maxHeartbeats 12800000 in
theorem lawMendedAt (f : TwoM → Int → List Int → (TwoM))
    (hf0 : ∀ (d0 : TwoM) (x1 : Int) (d2 : List Int), d0.sz ≤ 1048576 → d2.length ≤ 1048576 → ((f d0 x1 d2)).sz ≤ 1048577)
    (hs : ∀ (Aa0_0 : Option Addr) (na0_0 ca0_0 : Nat) (Aa0_1 : Option Addr) (na0_1 ca0_1 : Nat) (Aa0_2 : Option Addr) (na0_2 ca0_2 : Nat) (Aa0_3 : Option Addr) (na0_3 ca0_3 : Nat) (d0 : TwoM) (x1 : Int) (Aa2_0 : Option Addr) (na2_0 ca2_0 : Nat) (d2 : List Int) (w : World), Rd w w.heap.size (d0.cells) [.slice Aa0_0 na0_0 ca0_0, .slice Aa0_1 na0_1 ca0_1, .slice Aa0_2 na0_2 ca0_2, .slice Aa0_3 na0_3 ca0_3] → d0.sz ≤ 1048576 → Rd w w.heap.size (rowCells d2) [.slice Aa2_0 na2_0 ca2_0] → d2.length ≤ 1048576 → Calls Try.prog 45 #[.agg #[.slice Aa0_0 na0_0 ca0_0, .slice Aa0_1 na0_1 ca0_1, .slice Aa0_2 na0_2 ca0_2, .slice Aa0_3 na0_3 ca0_3], .int .i64 x1, .slice Aa2_0 na2_0 ca2_0] w (fun e w' => ∃ (Ar0_0 : Option Addr) (nr0_0 cr0_0 : Nat) (Ar0_1 : Option Addr) (nr0_1 cr0_1 : Nat) (Ar0_2 : Option Addr) (nr0_2 cr0_2 : Nat) (Ar0_3 : Option Addr) (nr0_3 cr0_3 : Nat), e = .returned (.agg #[.slice Ar0_0 nr0_0 cr0_0, .slice Ar0_1 nr0_1 cr0_1, .slice Ar0_2 nr0_2 cr0_2, .slice Ar0_3 nr0_3 cr0_3]) ∧ Has w' w.heap.size (((f d0 x1 d2)).cells) [.slice Ar0_0 nr0_0 cr0_0, .slice Ar0_1 nr0_1 cr0_1, .slice Ar0_2 nr0_2 cr0_2, .slice Ar0_3 nr0_3 cr0_3] ∧ Below w.heap.size w w'))
    (hi : ∀ (Aa0_0 : Option Addr) (na0_0 ca0_0 : Nat) (Aa0_1 : Option Addr) (na0_1 ca0_1 : Nat) (Aa0_2 : Option Addr) (na0_2 ca0_2 : Nat) (Aa0_3 : Option Addr) (na0_3 ca0_3 : Nat) (d0 : TwoM) (x1 : Int) (Aa2_0 : Option Addr) (na2_0 ca2_0 : Nat) (d2 : List Int) (w : World), Rd w w.heap.size (d0.cells) [.slice Aa0_0 na0_0 ca0_0, .slice Aa0_1 na0_1 ca0_1, .slice Aa0_2 na0_2 ca0_2, .slice Aa0_3 na0_3 ca0_3] → d0.sz ≤ 1048576 → Rd w w.heap.size (rowCells d2) [.slice Aa2_0 na2_0 ca2_0] → d2.length ≤ 1048576 → Calls Try.prog 23 #[.agg #[.slice Aa0_0 na0_0 ca0_0, .slice Aa0_1 na0_1 ca0_1, .slice Aa0_2 na0_2 ca0_2, .slice Aa0_3 na0_3 ca0_3], .int .i64 x1, .slice Aa2_0 na2_0 ca2_0] w (fun e w' => ∃ (Ar0_0 : Option Addr) (nr0_0 cr0_0 : Nat) (Ar0_1 : Option Addr) (nr0_1 cr0_1 : Nat) (Ar0_2 : Option Addr) (nr0_2 cr0_2 : Nat) (Ar0_3 : Option Addr) (nr0_3 cr0_3 : Nat), e = .returned (.agg #[.slice Ar0_0 nr0_0 cr0_0, .slice Ar0_1 nr0_1 cr0_1, .slice Ar0_2 nr0_2 cr0_2, .slice Ar0_3 nr0_3 cr0_3]) ∧ Has w' w.heap.size (((f d0 x1 d2)).cells) [.slice Ar0_0 nr0_0 cr0_0, .slice Ar0_1 nr0_1 cr0_1, .slice Ar0_2 nr0_2 cr0_2, .slice Ar0_3 nr0_3 cr0_3] ∧ Below w.heap.size w w'))
    (Aa0_0 : Option Addr) (na0_0 ca0_0 : Nat) (Aa0_1 : Option Addr) (na0_1 ca0_1 : Nat) (Aa0_2 : Option Addr) (na0_2 ca0_2 : Nat) (Aa0_3 : Option Addr) (na0_3 ca0_3 : Nat) (d0 : TwoM) (x1 : Int) (Aa2_0 : Option Addr) (na2_0 ca2_0 : Nat) (d2 : List Int) (w : World) (h0 : Rd w w.heap.size (d0.cells) [.slice Aa0_0 na0_0 ca0_0, .slice Aa0_1 na0_1 ca0_1, .slice Aa0_2 na0_2 ca0_2, .slice Aa0_3 na0_3 ca0_3]) (h2 : Rd w w.heap.size (rowCells d2) [.slice Aa2_0 na2_0 ca2_0]) :
    Calls Try.prog 11 #[.agg #[.slice Aa0_0 na0_0 ca0_0, .slice Aa0_1 na0_1 ca0_1, .slice Aa0_2 na0_2 ca0_2, .slice Aa0_3 na0_3 ca0_3], .int .i64 x1, .slice Aa2_0 na2_0 ca2_0] w fun e w' => e = .returned (.bool true) ∧ Below w.heap.size w w' := by
  have SP := Lib.hid hs
  have IM := Lib.hid hi
  clear hs hi
  have len2 : na2_0 = d2.length := by
    obtain ⟨_, _, _, e, hh, _⟩ := h2.irow
    injection e with e1 e2 e3
    subst e2
    exact hh.1.symm
  have mx2 : na2_0 ≤ maxLen := by
    obtain ⟨_, _, _, e, _, h1, h2⟩ := h2.irow
    injection e with e1 e2 e3
    subst e2 e3
    exact Nat.le_trans h1 h2
  unfold maxLen at mx2
  have S := Sep.nil w w.heap.size
  have c := Below.refl w.heap.size w
  replace S := S.box c.size #[.slice Aa0_0 na0_0 ca0_0, .slice Aa0_1 na0_1 ca0_1, .slice Aa0_2 na0_2 ca0_2, .slice Aa0_3 na0_3 ca0_3] 55
  replace c := c.alloc c.size (.cells #[.slice Aa0_0 na0_0 ca0_0, .slice Aa0_1 na0_1 ca0_1, .slice Aa0_2 na0_2 ca0_2, .slice Aa0_3 na0_3 ca0_3] 55)
  by_cases hbig2 : 1048576 < na2_0
  case pos =>
    go_enter Try.func11, Try.ntmps11
    go_wp2
    go_ret
    exact ⟨rfl, c⟩
  have hz2 : d2.length ≤ 1048576 := by omega
  have LE2 := Lib.hid len2
  clear len2
  go_enter Try.func11, Try.ntmps11
  go_wp2_with fail
  generalize w.alloc (.cells #[.slice Aa0_0 na0_0 ca0_0, .slice Aa0_1 na0_1 ca0_1, .slice Aa0_2 na0_2 ca0_2, .slice Aa0_3 na0_3 ca0_3] 55) = w1 at *
  refine (szTwo_any _ _ _ _ d0 _ _ _ (h0.keep c) c.size (by omega) (by omega)).mono ?_
  rintro e w2 ⟨rfl, b⟩
  replace c := c.trans (b.mono c.size)
  replace S := S.keep b
  clear b
  by_cases hzi0 : ((d0.sz : Nat) : Int) ≤ 1048576
  case neg =>
    rw [left, if_neg hzi0]
    go_wp2
    go_ret
    exact ⟨rfl, c⟩
  rw [left, if_pos hzi0]
  have hz0 : d0.sz ≤ 1048576 := by omega
  have qz0 : ¬ ((1048576 : Int) - (d0.sz : Int) < 0) := by omega
  obtain ⟨fx0, hfx0⟩ : ∃ q, q = (f d0 x1 d2) := ⟨_, rfl⟩
  have hfz0 := hf0 d0 x1 d2 hz0 hz2
  rw [← hfx0] at hfz0
  have HFX0 := Lib.hid hfx0
  clear hfx0
  have f0 : (w2).cell? ⟨w.heap.size, 0, none⟩ = some (.slice Aa0_0 na0_0 ca0_0) := (S.at_ 0 rfl).cell 0
  have f1 : (w2).cell? ⟨w.heap.size, 1, none⟩ = some (.slice Aa0_1 na0_1 ca0_1) := (S.at_ 0 rfl).cell 1
  have f2 : (w2).cell? ⟨w.heap.size, 2, none⟩ = some (.slice Aa0_2 na0_2 ca0_2) := (S.at_ 0 rfl).cell 2
  have f3 : (w2).cell? ⟨w.heap.size, 3, none⟩ = some (.slice Aa0_3 na0_3 ca0_3) := (S.at_ 0 rfl).cell 3
  go_wp2_with fail
  refine (toTwo_made _ _ _ _ d0 _ ((h0.keep c).up c.size) hz0).mono ?_
  rintro e w3 ⟨As0_0, ns0_0, cs0_0, As0_1, ns0_1, cs0_1, As0_2, ns0_2, cs0_2, As0_3, ns0_3, cs0_3, rfl, o, b⟩
  obtain ⟨fp_s0, S'⟩ := S.has b o c.size
  replace c := c.trans (b.mono c.size)
  clear S; have S := S'; clear S' o b f0 f1 f2 f3
  go_wp2_with fail
  refine (toI_made _ _ _ d2 _ ((h2.keep c).up c.size) hz2).mono ?_
  rintro e w4 ⟨As2_0, ns2_0, cs2_0, rfl, o, b⟩
  obtain ⟨fp_s2, S'⟩ := S.has b o c.size
  replace c := c.trans (b.mono c.size)
  clear S; have S := S'; clear S' o b
  go_wp2_with fail
  refine (SP.out _ _ _ _ _ _ _ _ _ _ _ _ d0 _ _ _ _ d2 _ ((S.own_ 1 rfl).rd) hz0 ((S.own_ 0 rfl).rd) hz2).mono ?_
  rintro e w5 ⟨Aw0_0, nw0_0, cw0_0, Aw0_1, nw0_1, cw0_1, Aw0_2, nw0_2, cw0_2, Aw0_3, nw0_3, cw0_3, rfl, o, b⟩
  obtain ⟨fp_w0, S'⟩ := S.has b o c.size
  replace c := c.trans (b.mono c.size)
  clear S; have S := S'; clear S' o b
  rw [← HFX0.out] at S
  replace S := S.box c.size #[.slice Aw0_0 nw0_0 cw0_0, .slice Aw0_1 nw0_1 cw0_1, .slice Aw0_2 nw0_2 cw0_2, .slice Aw0_3 nw0_3 cw0_3] 32
  replace c := c.alloc c.size (.cells #[.slice Aw0_0 nw0_0 cw0_0, .slice Aw0_1 nw0_1 cw0_1, .slice Aw0_2 nw0_2 cw0_2, .slice Aw0_3 nw0_3 cw0_3] 32)
  have f0 : (w5.alloc (.cells #[.slice Aw0_0 nw0_0 cw0_0, .slice Aw0_1 nw0_1 cw0_1, .slice Aw0_2 nw0_2 cw0_2, .slice Aw0_3 nw0_3 cw0_3] 32)).cell? ⟨w.heap.size, 0, none⟩ = some (.slice Aa0_0 na0_0 ca0_0) := (S.at_ 4 rfl).cell 0
  have f1 : (w5.alloc (.cells #[.slice Aw0_0 nw0_0 cw0_0, .slice Aw0_1 nw0_1 cw0_1, .slice Aw0_2 nw0_2 cw0_2, .slice Aw0_3 nw0_3 cw0_3] 32)).cell? ⟨w.heap.size, 1, none⟩ = some (.slice Aa0_1 na0_1 ca0_1) := (S.at_ 4 rfl).cell 1
  have f2 : (w5.alloc (.cells #[.slice Aw0_0 nw0_0 cw0_0, .slice Aw0_1 nw0_1 cw0_1, .slice Aw0_2 nw0_2 cw0_2, .slice Aw0_3 nw0_3 cw0_3] 32)).cell? ⟨w.heap.size, 2, none⟩ = some (.slice Aa0_2 na0_2 ca0_2) := (S.at_ 4 rfl).cell 2
  have f3 : (w5.alloc (.cells #[.slice Aw0_0 nw0_0 cw0_0, .slice Aw0_1 nw0_1 cw0_1, .slice Aw0_2 nw0_2 cw0_2, .slice Aw0_3 nw0_3 cw0_3] 32)).cell? ⟨w.heap.size, 3, none⟩ = some (.slice Aa0_3 na0_3 ca0_3) := (S.at_ 4 rfl).cell 3
  go_wp2_with fail
  generalize w5.alloc (.cells #[.slice Aw0_0 nw0_0 cw0_0, .slice Aw0_1 nw0_1 cw0_1, .slice Aw0_2 nw0_2 cw0_2, .slice Aw0_3 nw0_3 cw0_3] 32) = w6 at *
  refine (toTwo_made _ _ _ _ d0 _ ((h0.keep c).up c.size) hz0).mono ?_
  rintro e w7 ⟨Ax0_0, nx0_0, cx0_0, Ax0_1, nx0_1, cx0_1, Ax0_2, nx0_2, cx0_2, Ax0_3, nx0_3, cx0_3, rfl, o, b⟩
  obtain ⟨fp_x0, S'⟩ := S.has b o c.size
  replace c := c.trans (b.mono c.size)
  clear S; have S := S'; clear S' o b f0 f1 f2 f3
  replace S := S.box c.size #[.slice Ax0_0 nx0_0 cx0_0, .slice Ax0_1 nx0_1 cx0_1, .slice Ax0_2 nx0_2 cx0_2, .slice Ax0_3 nx0_3 cx0_3] 32
  replace c := c.alloc c.size (.cells #[.slice Ax0_0 nx0_0 cx0_0, .slice Ax0_1 nx0_1 cx0_1, .slice Ax0_2 nx0_2 cx0_2, .slice Ax0_3 nx0_3 cx0_3] 32)
  go_wp2_with fail
  generalize w7.alloc (.cells #[.slice Ax0_0 nx0_0 cx0_0, .slice Ax0_1 nx0_1 cx0_1, .slice Ax0_2 nx0_2 cx0_2, .slice Ax0_3 nx0_3 cx0_3] 32) = w8 at *
  refine (toI_made _ _ _ d2 _ ((h2.keep c).up c.size) hz2).mono ?_
  rintro e w9 ⟨Ax2_0, nx2_0, cx2_0, rfl, o, b⟩
  obtain ⟨fp_x2, S'⟩ := S.has b o c.size
  replace c := c.trans (b.mono c.size)
  clear S; have S := S'; clear S' o b
  have f0 : (w9).cell? ⟨w7.heap.size, 0, none⟩ = some (.slice Ax0_0 nx0_0 cx0_0) := (S.at_ 1 rfl).cell 0
  have f1 : (w9).cell? ⟨w7.heap.size, 1, none⟩ = some (.slice Ax0_1 nx0_1 cx0_1) := (S.at_ 1 rfl).cell 1
  have f2 : (w9).cell? ⟨w7.heap.size, 2, none⟩ = some (.slice Ax0_2 nx0_2 cx0_2) := (S.at_ 1 rfl).cell 2
  have f3 : (w9).cell? ⟨w7.heap.size, 3, none⟩ = some (.slice Ax0_3 nx0_3 cx0_3) := (S.at_ 1 rfl).cell 3
  go_wp2_with fail
  refine (IM.out _ _ _ _ _ _ _ _ _ _ _ _ d0 _ _ _ _ d2 _ ((S.own_ 2 rfl).rd) hz0 ((S.own_ 0 rfl).rd) hz2).mono ?_
  rintro e w10 ⟨Ag0_0, ng0_0, cg0_0, Ag0_1, ng0_1, cg0_1, Ag0_2, ng0_2, cg0_2, Ag0_3, ng0_3, cg0_3, rfl, o, b⟩
  obtain ⟨fp_g0, S'⟩ := S.has b o c.size
  replace c := c.trans (b.mono c.size)
  clear S; have S := S'; clear S' o b f0 f1 f2 f3
  rw [← HFX0.out] at S
  replace S := S.box c.size #[.slice Ag0_0 ng0_0 cg0_0, .slice Ag0_1 ng0_1 cg0_1, .slice Ag0_2 ng0_2 cg0_2, .slice Ag0_3 ng0_3 cg0_3] 32
  replace c := c.alloc c.size (.cells #[.slice Ag0_0 ng0_0 cg0_0, .slice Ag0_1 ng0_1 cg0_1, .slice Ag0_2 ng0_2 cg0_2, .slice Ag0_3 ng0_3 cg0_3] 32)
  have f0 : (w10.alloc (.cells #[.slice Ag0_0 ng0_0 cg0_0, .slice Ag0_1 ng0_1 cg0_1, .slice Ag0_2 ng0_2 cg0_2, .slice Ag0_3 ng0_3 cg0_3] 32)).cell? ⟨w10.heap.size, 0, none⟩ = some (.slice Ag0_0 ng0_0 cg0_0) := (S.at_ 0 rfl).cell 0
  have f1 : (w10.alloc (.cells #[.slice Ag0_0 ng0_0 cg0_0, .slice Ag0_1 ng0_1 cg0_1, .slice Ag0_2 ng0_2 cg0_2, .slice Ag0_3 ng0_3 cg0_3] 32)).cell? ⟨w10.heap.size, 1, none⟩ = some (.slice Ag0_1 ng0_1 cg0_1) := (S.at_ 0 rfl).cell 1
  have f2 : (w10.alloc (.cells #[.slice Ag0_0 ng0_0 cg0_0, .slice Ag0_1 ng0_1 cg0_1, .slice Ag0_2 ng0_2 cg0_2, .slice Ag0_3 ng0_3 cg0_3] 32)).cell? ⟨w10.heap.size, 2, none⟩ = some (.slice Ag0_2 ng0_2 cg0_2) := (S.at_ 0 rfl).cell 2
  have f3 : (w10.alloc (.cells #[.slice Ag0_0 ng0_0 cg0_0, .slice Ag0_1 ng0_1 cg0_1, .slice Ag0_2 ng0_2 cg0_2, .slice Ag0_3 ng0_3 cg0_3] 32)).cell? ⟨w10.heap.size, 3, none⟩ = some (.slice Ag0_3 ng0_3 cg0_3) := (S.at_ 0 rfl).cell 3
  have f4 : (w10.alloc (.cells #[.slice Ag0_0 ng0_0 cg0_0, .slice Ag0_1 ng0_1 cg0_1, .slice Ag0_2 ng0_2 cg0_2, .slice Ag0_3 ng0_3 cg0_3] 32)).cell? ⟨w5.heap.size, 0, none⟩ = some (.slice Aw0_0 nw0_0 cw0_0) := (S.at_ 5 rfl).cell 0
  have f5 : (w10.alloc (.cells #[.slice Ag0_0 ng0_0 cg0_0, .slice Ag0_1 ng0_1 cg0_1, .slice Ag0_2 ng0_2 cg0_2, .slice Ag0_3 ng0_3 cg0_3] 32)).cell? ⟨w5.heap.size, 1, none⟩ = some (.slice Aw0_1 nw0_1 cw0_1) := (S.at_ 5 rfl).cell 1
  have f6 : (w10.alloc (.cells #[.slice Ag0_0 ng0_0 cg0_0, .slice Ag0_1 ng0_1 cg0_1, .slice Ag0_2 ng0_2 cg0_2, .slice Ag0_3 ng0_3 cg0_3] 32)).cell? ⟨w5.heap.size, 2, none⟩ = some (.slice Aw0_2 nw0_2 cw0_2) := (S.at_ 5 rfl).cell 2
  have f7 : (w10.alloc (.cells #[.slice Ag0_0 ng0_0 cg0_0, .slice Ag0_1 ng0_1 cg0_1, .slice Ag0_2 ng0_2 cg0_2, .slice Ag0_3 ng0_3 cg0_3] 32)).cell? ⟨w5.heap.size, 3, none⟩ = some (.slice Aw0_3 nw0_3 cw0_3) := (S.at_ 5 rfl).cell 3
  go_wp2_with fail
  generalize w10.alloc (.cells #[.slice Ag0_0 ng0_0 cg0_0, .slice Ag0_1 ng0_1 cg0_1, .slice Ag0_2 ng0_2 cg0_2, .slice Ag0_3 ng0_3 cg0_3] 32) = w11 at *
  refine (eqTwo_yes _ _ _ _ _ _ _ _ _ _ fx0 _ ((S.own_ 1 rfl).rd) ((S.own_ 6 rfl).rd) (Nat.le_refl _) (Nat.le_refl _) hfz0).mono ?_
  rintro e w12 ⟨rfl, b⟩
  replace c := c.trans (b.mono c.size)
  replace S := S.keep b
  clear b f0 f1 f2 f3 f4 f5 f6 f7
  have f0 : (w12).cell? ⟨w7.heap.size, 0, none⟩ = some (.slice Ax0_0 nx0_0 cx0_0) := (S.at_ 3 rfl).cell 0
  have f1 : (w12).cell? ⟨w7.heap.size, 1, none⟩ = some (.slice Ax0_1 nx0_1 cx0_1) := (S.at_ 3 rfl).cell 1
  have f2 : (w12).cell? ⟨w7.heap.size, 2, none⟩ = some (.slice Ax0_2 nx0_2 cx0_2) := (S.at_ 3 rfl).cell 2
  have f3 : (w12).cell? ⟨w7.heap.size, 3, none⟩ = some (.slice Ax0_3 nx0_3 cx0_3) := (S.at_ 3 rfl).cell 3
  have f4 : (w12).cell? ⟨w.heap.size, 0, none⟩ = some (.slice Aa0_0 na0_0 ca0_0) := (S.at_ 9 rfl).cell 0
  have f5 : (w12).cell? ⟨w.heap.size, 1, none⟩ = some (.slice Aa0_1 na0_1 ca0_1) := (S.at_ 9 rfl).cell 1
  have f6 : (w12).cell? ⟨w.heap.size, 2, none⟩ = some (.slice Aa0_2 na0_2 ca0_2) := (S.at_ 9 rfl).cell 2
  have f7 : (w12).cell? ⟨w.heap.size, 3, none⟩ = some (.slice Aa0_3 na0_3 ca0_3) := (S.at_ 9 rfl).cell 3
  have SH := Lib.hid S
  have CH := Lib.hid c
  clear S c
  go_wp2_with fail
  go_region_held3 (fun v => v.cell? ⟨w7.heap.size, 0, none⟩ = some (.slice Ax0_0 nx0_0 cx0_0) ∧ v.cell? ⟨w7.heap.size, 1, none⟩ = some (.slice Ax0_1 nx0_1 cx0_1) ∧ v.cell? ⟨w7.heap.size, 2, none⟩ = some (.slice Ax0_2 nx0_2 cx0_2) ∧ v.cell? ⟨w7.heap.size, 3, none⟩ = some (.slice Ax0_3 nx0_3 cx0_3) ∧ v.cell? ⟨w.heap.size, 0, none⟩ = some (.slice Aa0_0 na0_0 ca0_0) ∧ v.cell? ⟨w.heap.size, 1, none⟩ = some (.slice Aa0_1 na0_1 ca0_1) ∧ v.cell? ⟨w.heap.size, 2, none⟩ = some (.slice Aa0_2 na0_2 ca0_2) ∧ v.cell? ⟨w.heap.size, 3, none⟩ = some (.slice Aa0_3 na0_3 ca0_3)) (go_keep)
    (first
      | (go_at_call 31
         refine (toTwo_made _ _ _ _ d0 _ ((h0.keep CH.out.drew).up CH.out.size) hz0).mono ?_
         rintro e w13 ⟨Az0_0, nz0_0, cz0_0, Az0_1, nz0_1, cz0_1, Az0_2, nz0_2, cz0_2, Az0_3, nz0_3, cz0_3, rfl, o, b⟩
         have S1 := (SH.out.keep ((Below.refl _ _).drew)).keep b
         have g0 : (w13).cell? ⟨w7.heap.size, 0, none⟩ = some (.slice Ax0_0 nx0_0 cx0_0) := (S1.at_ 3 rfl).cell 0
         have g1 : (w13).cell? ⟨w7.heap.size, 1, none⟩ = some (.slice Ax0_1 nx0_1 cx0_1) := (S1.at_ 3 rfl).cell 1
         have g2 : (w13).cell? ⟨w7.heap.size, 2, none⟩ = some (.slice Ax0_2 nx0_2 cx0_2) := (S1.at_ 3 rfl).cell 2
         have g3 : (w13).cell? ⟨w7.heap.size, 3, none⟩ = some (.slice Ax0_3 nx0_3 cx0_3) := (S1.at_ 3 rfl).cell 3
         have g4 : (w13).cell? ⟨w.heap.size, 0, none⟩ = some (.slice Aa0_0 na0_0 ca0_0) := (S1.at_ 9 rfl).cell 0
         have g5 : (w13).cell? ⟨w.heap.size, 1, none⟩ = some (.slice Aa0_1 na0_1 ca0_1) := (S1.at_ 9 rfl).cell 1
         have g6 : (w13).cell? ⟨w.heap.size, 2, none⟩ = some (.slice Aa0_2 na0_2 ca0_2) := (S1.at_ 9 rfl).cell 2
         have g7 : (w13).cell? ⟨w.heap.size, 3, none⟩ = some (.slice Aa0_3 na0_3 ca0_3) := (S1.at_ 9 rfl).cell 3
         have O1 := Lib.hid o
         have B1 := Lib.hid b
         clear S1 o b)
      | (go_at_call 32
         refine (eqTwo_yes _ _ _ _ _ _ _ _ _ _ d0 _ ((((SH.out.keep ((Below.refl _ _).drew)).keep B1.out).own_ 4 rfl).rd) (O1.out.rd) (Nat.le_refl _) (Nat.le_refl _) (by omega)).mono ?_
         rintro e w14 ⟨rfl, b⟩
         have S3 := ((SH.out.keep ((Below.refl _ _).drew)).keep B1.out).keep b
         have r0 : (w14).cell? ⟨w7.heap.size, 0, none⟩ = some (.slice Ax0_0 nx0_0 cx0_0) := (S3.at_ 3 rfl).cell 0
         have r1 : (w14).cell? ⟨w7.heap.size, 1, none⟩ = some (.slice Ax0_1 nx0_1 cx0_1) := (S3.at_ 3 rfl).cell 1
         have r2 : (w14).cell? ⟨w7.heap.size, 2, none⟩ = some (.slice Ax0_2 nx0_2 cx0_2) := (S3.at_ 3 rfl).cell 2
         have r3 : (w14).cell? ⟨w7.heap.size, 3, none⟩ = some (.slice Ax0_3 nx0_3 cx0_3) := (S3.at_ 3 rfl).cell 3
         have r4 : (w14).cell? ⟨w.heap.size, 0, none⟩ = some (.slice Aa0_0 na0_0 ca0_0) := (S3.at_ 9 rfl).cell 0
         have r5 : (w14).cell? ⟨w.heap.size, 1, none⟩ = some (.slice Aa0_1 na0_1 ca0_1) := (S3.at_ 9 rfl).cell 1
         have r6 : (w14).cell? ⟨w.heap.size, 2, none⟩ = some (.slice Aa0_2 na0_2 ca0_2) := (S3.at_ 9 rfl).cell 2
         have r7 : (w14).cell? ⟨w.heap.size, 3, none⟩ = some (.slice Aa0_3 na0_3 ca0_3) := (S3.at_ 9 rfl).cell 3
         have S2 := Lib.hid S3
         have C2 := Lib.hid ((CH.out.drew.trans (B1.out.mono CH.out.size)).trans (b.mono (CH.out.drew.trans (B1.out.mono CH.out.size)).size))
         clear b S3))
  have S := S2.out
  have c := C2.out
  clear SH CH S2 C2 O1 B1 f0 g0 r0 f1 g1 r1 f2 g2 r2 f3 g3 r3 f4 g4 r4 f5 g5 r5 f6 g6 r6 f7 g7 r7
  go_wp2_with fail
  refine (toI_made _ _ _ d2 _ ((h2.keep c).up c.size) hz2).mono ?_
  rintro e w15 ⟨Az2_0, nz2_0, cz2_0, rfl, o, b⟩
  obtain ⟨fp_z2, S'⟩ := S.has b o c.size
  replace c := c.trans (b.mono c.size)
  clear S; have S := S'; clear S' o b
  go_wp2_with fail
  refine (eqI_yes _ _ _ _ _ _ _ _ d2 _ ((S.own_ 3 rfl).rd) ((S.own_ 0 rfl).rd) (by omega)).mono ?_
  rintro e w16 ⟨rfl, b⟩
  replace c := c.trans (b.mono c.size)
  replace S := S.keep b
  clear b
  have f0 : (w16).cell? ⟨w7.heap.size, 0, none⟩ = some (.slice Ax0_0 nx0_0 cx0_0) := (S.at_ 4 rfl).cell 0
  have f1 : (w16).cell? ⟨w7.heap.size, 1, none⟩ = some (.slice Ax0_1 nx0_1 cx0_1) := (S.at_ 4 rfl).cell 1
  have f2 : (w16).cell? ⟨w7.heap.size, 2, none⟩ = some (.slice Ax0_2 nx0_2 cx0_2) := (S.at_ 4 rfl).cell 2
  have f3 : (w16).cell? ⟨w7.heap.size, 3, none⟩ = some (.slice Ax0_3 nx0_3 cx0_3) := (S.at_ 4 rfl).cell 3
  go_wp2_with fail
  refine (markTwo_any _ _ _ _ d0 _ _ (S.own_ 5 rfl) (S.nodup_own 5 rfl) (by omega) (1) (by omega) (by omega)).mono ?_
  rintro e w17 ⟨m0, rfl, o, t, mk_x0, en_x0, es_x0⟩
  have b := S.below 5 rfl t c.size
  have S' := S.mark 5 rfl t o
  replace c := c.trans b
  clear S; have S := S'; clear S' o t b f0 f1 f2 f3
  have nb0 : d0.n ≤ 2097154 := by
    first | omega | exact two_n_le _ (by omega)
  go_wp2_with fail
  refine (markI_any _ _ _ d2 _ _ (S.own_ 3 rfl) (S.nodup_own 3 rfl) (by omega) (1 + (d0.n : Int)) (by omega) (by omega)).mono ?_
  rintro e w18 ⟨m2, rfl, o, t, mk_x2, en_x2, es_x2⟩
  have b := S.below 3 rfl t c.size
  have S' := S.mark 3 rfl t o
  replace c := c.trans b
  clear S; have S := S'; clear S' o t b
  have nb2 : d2.length ≤ 2097154 := by
    first | omega | exact i_n_le _ (by omega)
  have qk : ¬ (1 + (d0.n : Int) + (d2.length : Int) < 0) := by omega
  have f0 : (w18).cell? ⟨w10.heap.size, 0, none⟩ = some (.slice Ag0_0 ng0_0 cg0_0) := (S.at_ 1 rfl).cell 0
  have f1 : (w18).cell? ⟨w10.heap.size, 1, none⟩ = some (.slice Ag0_1 ng0_1 cg0_1) := (S.at_ 1 rfl).cell 1
  have f2 : (w18).cell? ⟨w10.heap.size, 2, none⟩ = some (.slice Ag0_2 ng0_2 cg0_2) := (S.at_ 1 rfl).cell 2
  have f3 : (w18).cell? ⟨w10.heap.size, 3, none⟩ = some (.slice Ag0_3 ng0_3 cg0_3) := (S.at_ 1 rfl).cell 3
  have f4 : (w18).cell? ⟨w5.heap.size, 0, none⟩ = some (.slice Aw0_0 nw0_0 cw0_0) := (S.at_ 6 rfl).cell 0
  have f5 : (w18).cell? ⟨w5.heap.size, 1, none⟩ = some (.slice Aw0_1 nw0_1 cw0_1) := (S.at_ 6 rfl).cell 1
  have f6 : (w18).cell? ⟨w5.heap.size, 2, none⟩ = some (.slice Aw0_2 nw0_2 cw0_2) := (S.at_ 6 rfl).cell 2
  have f7 : (w18).cell? ⟨w5.heap.size, 3, none⟩ = some (.slice Aw0_3 nw0_3 cw0_3) := (S.at_ 6 rfl).cell 3
  go_wp2_with fail
  refine (eqTwo_yes _ _ _ _ _ _ _ _ _ _ fx0 _ ((S.own_ 2 rfl).rd) ((S.own_ 7 rfl).rd) (Nat.le_refl _) (Nat.le_refl _) hfz0).mono ?_
  rintro e w19 ⟨rfl, b⟩
  replace c := c.trans (b.mono c.size)
  replace S := S.keep b
  clear b f0 f1 f2 f3 f4 f5 f6 f7
  have nr0 : fx0.n ≤ 2097154 := by
    first | omega | exact two_n_le _ (by omega)
  have f0 : (w19).cell? ⟨w10.heap.size, 0, none⟩ = some (.slice Ag0_0 ng0_0 cg0_0) := (S.at_ 1 rfl).cell 0
  have f1 : (w19).cell? ⟨w10.heap.size, 1, none⟩ = some (.slice Ag0_1 ng0_1 cg0_1) := (S.at_ 1 rfl).cell 1
  have f2 : (w19).cell? ⟨w10.heap.size, 2, none⟩ = some (.slice Ag0_2 ng0_2 cg0_2) := (S.at_ 1 rfl).cell 2
  have f3 : (w19).cell? ⟨w10.heap.size, 3, none⟩ = some (.slice Ag0_3 ng0_3 cg0_3) := (S.at_ 1 rfl).cell 3
  go_wp2_with fail
  refine (markTwo_any _ _ _ _ fx0 _ _ (S.own_ 2 rfl) (S.nodup_own 2 rfl) hfz0 (1) (by omega) (by omega)).mono ?_
  rintro e w20 ⟨e0, rfl, o, t, mk_g0, en_g0, es_g0⟩
  have b := S.below 2 rfl t c.size
  have S' := S.mark 2 rfl t o
  replace c := c.trans b
  clear S; have S := S'; clear S' o t b f0 f1 f2 f3
  have f0 : (w20).cell? ⟨w10.heap.size, 0, none⟩ = some (.slice Ag0_0 ng0_0 cg0_0) := (S.at_ 1 rfl).cell 0
  have f1 : (w20).cell? ⟨w10.heap.size, 1, none⟩ = some (.slice Ag0_1 ng0_1 cg0_1) := (S.at_ 1 rfl).cell 1
  have f2 : (w20).cell? ⟨w10.heap.size, 2, none⟩ = some (.slice Ag0_2 ng0_2 cg0_2) := (S.at_ 1 rfl).cell 2
  have f3 : (w20).cell? ⟨w10.heap.size, 3, none⟩ = some (.slice Ag0_3 ng0_3 cg0_3) := (S.at_ 1 rfl).cell 3
  go_wp2_with fail
  refine (heldTwo_any _ _ _ _ e0 _ _ ((S.own_ 2 rfl).rd) (Nat.le_refl _) (by omega) (1) (by omega) (by omega) mk_g0).mono ?_
  rintro e w21 ⟨rfl, b⟩
  rw [en_g0]
  have q21 : ¬ (1 + (fx0.n : Int) < 0) := by omega
  replace c := c.trans (b.mono c.size)
  replace S := S.keep b
  clear b f0 f1 f2 f3
  have f0 : (w21).cell? ⟨w.heap.size, 0, none⟩ = some (.slice Aa0_0 na0_0 ca0_0) := (S.at_ 10 rfl).cell 0
  have f1 : (w21).cell? ⟨w.heap.size, 1, none⟩ = some (.slice Aa0_1 na0_1 ca0_1) := (S.at_ 10 rfl).cell 1
  have f2 : (w21).cell? ⟨w.heap.size, 2, none⟩ = some (.slice Aa0_2 na0_2 ca0_2) := (S.at_ 10 rfl).cell 2
  have f3 : (w21).cell? ⟨w.heap.size, 3, none⟩ = some (.slice Aa0_3 na0_3 ca0_3) := (S.at_ 10 rfl).cell 3
  go_wp2_with fail
  refine (toTwo_made _ _ _ _ d0 _ ((h0.keep c).up c.size) hz0).mono ?_
  rintro e w22 ⟨At0_0, nt0_0, ct0_0, At0_1, nt0_1, ct0_1, At0_2, nt0_2, ct0_2, At0_3, nt0_3, ct0_3, rfl, o, b⟩
  obtain ⟨fp_t0, S'⟩ := S.has b o c.size
  replace c := c.trans (b.mono c.size)
  clear S; have S := S'; clear S' o b f0 f1 f2 f3
  go_wp2_with fail
  refine (toI_made _ _ _ d2 _ ((h2.keep c).up c.size) hz2).mono ?_
  rintro e w23 ⟨At2_0, nt2_0, ct2_0, rfl, o, b⟩
  obtain ⟨fp_t2, S'⟩ := S.has b o c.size
  replace c := c.trans (b.mono c.size)
  clear S; have S := S'; clear S' o b
  go_wp2_with fail
  refine (IM.out _ _ _ _ _ _ _ _ _ _ _ _ d0 _ _ _ _ d2 _ ((S.own_ 1 rfl).rd) hz0 ((S.own_ 0 rfl).rd) hz2).mono ?_
  rintro e w24 ⟨Ah0_0, nh0_0, ch0_0, Ah0_1, nh0_1, ch0_1, Ah0_2, nh0_2, ch0_2, Ah0_3, nh0_3, ch0_3, rfl, o, b⟩
  obtain ⟨fp_h0, S'⟩ := S.has b o c.size
  replace c := c.trans (b.mono c.size)
  clear S; have S := S'; clear S' o b
  rw [← HFX0.out] at S
  replace S := S.box c.size #[.slice Ah0_0 nh0_0 ch0_0, .slice Ah0_1 nh0_1 ch0_1, .slice Ah0_2 nh0_2 ch0_2, .slice Ah0_3 nh0_3 ch0_3] 32
  replace c := c.alloc c.size (.cells #[.slice Ah0_0 nh0_0 ch0_0, .slice Ah0_1 nh0_1 ch0_1, .slice Ah0_2 nh0_2 ch0_2, .slice Ah0_3 nh0_3 ch0_3] 32)
  have f0 : (w24.alloc (.cells #[.slice Ah0_0 nh0_0 ch0_0, .slice Ah0_1 nh0_1 ch0_1, .slice Ah0_2 nh0_2 ch0_2, .slice Ah0_3 nh0_3 ch0_3] 32)).cell? ⟨w24.heap.size, 0, none⟩ = some (.slice Ah0_0 nh0_0 ch0_0) := (S.at_ 0 rfl).cell 0
  have f1 : (w24.alloc (.cells #[.slice Ah0_0 nh0_0 ch0_0, .slice Ah0_1 nh0_1 ch0_1, .slice Ah0_2 nh0_2 ch0_2, .slice Ah0_3 nh0_3 ch0_3] 32)).cell? ⟨w24.heap.size, 1, none⟩ = some (.slice Ah0_1 nh0_1 ch0_1) := (S.at_ 0 rfl).cell 1
  have f2 : (w24.alloc (.cells #[.slice Ah0_0 nh0_0 ch0_0, .slice Ah0_1 nh0_1 ch0_1, .slice Ah0_2 nh0_2 ch0_2, .slice Ah0_3 nh0_3 ch0_3] 32)).cell? ⟨w24.heap.size, 2, none⟩ = some (.slice Ah0_2 nh0_2 ch0_2) := (S.at_ 0 rfl).cell 2
  have f3 : (w24.alloc (.cells #[.slice Ah0_0 nh0_0 ch0_0, .slice Ah0_1 nh0_1 ch0_1, .slice Ah0_2 nh0_2 ch0_2, .slice Ah0_3 nh0_3 ch0_3] 32)).cell? ⟨w24.heap.size, 3, none⟩ = some (.slice Ah0_3 nh0_3 ch0_3) := (S.at_ 0 rfl).cell 3
  have f4 : (w24.alloc (.cells #[.slice Ah0_0 nh0_0 ch0_0, .slice Ah0_1 nh0_1 ch0_1, .slice Ah0_2 nh0_2 ch0_2, .slice Ah0_3 nh0_3 ch0_3] 32)).cell? ⟨w5.heap.size, 0, none⟩ = some (.slice Aw0_0 nw0_0 cw0_0) := (S.at_ 10 rfl).cell 0
  have f5 : (w24.alloc (.cells #[.slice Ah0_0 nh0_0 ch0_0, .slice Ah0_1 nh0_1 ch0_1, .slice Ah0_2 nh0_2 ch0_2, .slice Ah0_3 nh0_3 ch0_3] 32)).cell? ⟨w5.heap.size, 1, none⟩ = some (.slice Aw0_1 nw0_1 cw0_1) := (S.at_ 10 rfl).cell 1
  have f6 : (w24.alloc (.cells #[.slice Ah0_0 nh0_0 ch0_0, .slice Ah0_1 nh0_1 ch0_1, .slice Ah0_2 nh0_2 ch0_2, .slice Ah0_3 nh0_3 ch0_3] 32)).cell? ⟨w5.heap.size, 2, none⟩ = some (.slice Aw0_2 nw0_2 cw0_2) := (S.at_ 10 rfl).cell 2
  have f7 : (w24.alloc (.cells #[.slice Ah0_0 nh0_0 ch0_0, .slice Ah0_1 nh0_1 ch0_1, .slice Ah0_2 nh0_2 ch0_2, .slice Ah0_3 nh0_3 ch0_3] 32)).cell? ⟨w5.heap.size, 3, none⟩ = some (.slice Aw0_3 nw0_3 cw0_3) := (S.at_ 10 rfl).cell 3
  go_wp2_with fail
  generalize w24.alloc (.cells #[.slice Ah0_0 nh0_0 ch0_0, .slice Ah0_1 nh0_1 ch0_1, .slice Ah0_2 nh0_2 ch0_2, .slice Ah0_3 nh0_3 ch0_3] 32) = w25 at *
  refine (eqTwo_yes _ _ _ _ _ _ _ _ _ _ fx0 _ ((S.own_ 1 rfl).rd) ((S.own_ 11 rfl).rd) (Nat.le_refl _) (Nat.le_refl _) hfz0).mono ?_
  rintro e w26 ⟨rfl, b⟩
  replace c := c.trans (b.mono c.size)
  replace S := S.keep b
  clear b f0 f1 f2 f3 f4 f5 f6 f7
  have f0 : (w26).cell? ⟨w10.heap.size, 0, none⟩ = some (.slice Ag0_0 ng0_0 cg0_0) := (S.at_ 5 rfl).cell 0
  have f1 : (w26).cell? ⟨w10.heap.size, 1, none⟩ = some (.slice Ag0_1 ng0_1 cg0_1) := (S.at_ 5 rfl).cell 1
  have f2 : (w26).cell? ⟨w10.heap.size, 2, none⟩ = some (.slice Ag0_2 ng0_2 cg0_2) := (S.at_ 5 rfl).cell 2
  have f3 : (w26).cell? ⟨w10.heap.size, 3, none⟩ = some (.slice Ag0_3 ng0_3 cg0_3) := (S.at_ 5 rfl).cell 3
  go_wp2_with fail
  refine (heldTwo_any _ _ _ _ e0 _ _ ((S.own_ 6 rfl).rd) (Nat.le_refl _) (by omega) (1) (by omega) (by omega) mk_g0).mono ?_
  rintro e w27 ⟨rfl, b⟩
  rw [en_g0]
  have q27 : ¬ (1 + (fx0.n : Int) < 0) := by omega
  replace c := c.trans (b.mono c.size)
  replace S := S.keep b
  clear b f0 f1 f2 f3
  go_wp2
  go_ret
  exact ⟨rfl, c⟩

end Go.Proofs.Ytejcpoidoekleaa

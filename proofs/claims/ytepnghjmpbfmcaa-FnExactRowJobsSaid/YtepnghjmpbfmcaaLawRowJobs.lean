/-
  Exact laws, over open contracts: whatever program function meets the model's contract, the law answers true and writes nothing that was there. Made by program (wip/lawgen.py).
-/
import Derived.Test.YtepnghjmpbfmcaaKA
import Derived.Test.YtepnghjmpbfmcaaJobs
import Derived.Deep.RegionHeld3
namespace Go.Proofs.Ytepnghjmpbfmcaa
set_option maxRecDepth 100000
open Go.RowKit

set_option maxHeartbeats 12800000 in
theorem lawRowJobs (f : List Int → (JobsM) × Bool)
    (hf0 : ∀ (d0 : List Int), d0.length ≤ 1048576 → ((f d0).1).sz ≤ 1048577)
    (hs : ∀ (Aa0_0 : Option Addr) (na0_0 ca0_0 : Nat) (d0 : List Int) (w : World), Rd w w.heap.size (rowCells d0) [.slice Aa0_0 na0_0 ca0_0] → d0.length ≤ 1048576 → Calls Try.prog 7 #[.slice Aa0_0 na0_0 ca0_0] w (fun e w' => ∃ (xr0_0 : Int) (xr0_1 : Int) (xr0_2 : Int) (xr0_3 : Int) (xr0_4 : Int) (Ar0_5 : Option Addr) (nr0_5 cr0_5 : Nat), e = .returned (.tuple #[.agg #[.int .i64 xr0_0, .int .i64 xr0_1, .int .i64 xr0_2, .int .i64 xr0_3, .int .i64 xr0_4, .slice Ar0_5 nr0_5 cr0_5], .bool (f d0).2]) ∧ Has w' w.heap.size (((f d0).1).cells) [.int .i64 xr0_0, .int .i64 xr0_1, .int .i64 xr0_2, .int .i64 xr0_3, .int .i64 xr0_4, .slice Ar0_5 nr0_5 cr0_5] ∧ Below w.heap.size w w'))
    (hi : ∀ (Aa0_0 : Option Addr) (na0_0 ca0_0 : Nat) (d0 : List Int) (w : World), Rd w w.heap.size (rowCells d0) [.slice Aa0_0 na0_0 ca0_0] → d0.length ≤ 1048576 → Calls Try.prog 9 #[.slice Aa0_0 na0_0 ca0_0] w (fun e w' => ∃ (xr0_0 : Int) (xr0_1 : Int) (xr0_2 : Int) (xr0_3 : Int) (xr0_4 : Int) (Ar0_5 : Option Addr) (nr0_5 cr0_5 : Nat), e = .returned (.tuple #[.agg #[.int .i64 xr0_0, .int .i64 xr0_1, .int .i64 xr0_2, .int .i64 xr0_3, .int .i64 xr0_4, .slice Ar0_5 nr0_5 cr0_5], .bool (f d0).2]) ∧ Has w' w.heap.size (((f d0).1).cells) [.int .i64 xr0_0, .int .i64 xr0_1, .int .i64 xr0_2, .int .i64 xr0_3, .int .i64 xr0_4, .slice Ar0_5 nr0_5 cr0_5] ∧ Below w.heap.size w w'))
    (Aa0_0 : Option Addr) (na0_0 ca0_0 : Nat) (d0 : List Int) (w : World) (h0 : Rd w w.heap.size (rowCells d0) [.slice Aa0_0 na0_0 ca0_0]) :
    Calls Try.prog 3 #[.slice Aa0_0 na0_0 ca0_0] w fun e w' => e = .returned (.bool true) ∧ Below w.heap.size w w' := by
  have SP := Lib.hid hs
  have IM := Lib.hid hi
  clear hs hi
  have len0 : na0_0 = d0.length := by
    obtain ⟨_, _, _, e, hh, _⟩ := h0.irow
    injection e with e1 e2 e3
    subst e2
    exact hh.1.symm
  have mx0 : na0_0 ≤ maxLen := by
    obtain ⟨_, _, _, e, _, h1, h2⟩ := h0.irow
    injection e with e1 e2 e3
    subst e2 e3
    exact Nat.le_trans h1 h2
  unfold maxLen at mx0
  have S := Sep.nil w w.heap.size
  have c := Below.refl w.heap.size w
  by_cases hbig0 : 1048576 < na0_0
  case pos =>
    go_enter Try.func3, Try.ntmps3
    go_wp2
    go_ret
    exact ⟨rfl, c⟩
  have hz0 : d0.length ≤ 1048576 := by omega
  have LE0 := Lib.hid len0
  clear len0
  go_enter Try.func3, Try.ntmps3
  obtain ⟨fx0, hfx0⟩ : ∃ q, q = (f d0).1 := ⟨_, rfl⟩
  have hfz0 := hf0 d0 hz0
  rw [← hfx0] at hfz0
  have HFX0 := Lib.hid hfx0
  clear hfx0
  obtain ⟨fx1, hfx1⟩ : ∃ q, q = (f d0).2 := ⟨_, rfl⟩
  have HFX1 := Lib.hid hfx1
  clear hfx1
  go_wp2_with fail
  refine (toI_made _ _ _ d0 _ ((h0.keep c).up c.size) hz0).mono ?_
  rintro e w1 ⟨As0_0, ns0_0, cs0_0, rfl, o, b⟩
  obtain ⟨fp_s0, S'⟩ := S.has b o c.size
  replace c := c.trans (b.mono c.size)
  clear S; have S := S'; clear S' o b
  go_wp2_with fail
  refine (SP.out _ _ _ d0 _ ((S.own_ 0 rfl).rd) hz0).mono ?_
  rintro e w2 ⟨xw0_0, xw0_1, xw0_2, xw0_3, xw0_4, Aw0_5, nw0_5, cw0_5, rfl, o, b⟩
  obtain ⟨fp_w0, S'⟩ := S.has b o c.size
  replace c := c.trans (b.mono c.size)
  clear S; have S := S'; clear S' o b
  rw [← HFX0.out] at S
  rw [← HFX1.out]
  replace S := S.box c.size #[.int .i64 xw0_0, .int .i64 xw0_1, .int .i64 xw0_2, .int .i64 xw0_3, .int .i64 xw0_4, .slice Aw0_5 nw0_5 cw0_5] 25
  replace c := c.alloc c.size (.cells #[.int .i64 xw0_0, .int .i64 xw0_1, .int .i64 xw0_2, .int .i64 xw0_3, .int .i64 xw0_4, .slice Aw0_5 nw0_5 cw0_5] 25)
  go_wp2_with fail
  generalize w2.alloc (.cells #[.int .i64 xw0_0, .int .i64 xw0_1, .int .i64 xw0_2, .int .i64 xw0_3, .int .i64 xw0_4, .slice Aw0_5 nw0_5 cw0_5] 25) = w3 at *
  refine (toI_made _ _ _ d0 _ ((h0.keep c).up c.size) hz0).mono ?_
  rintro e w4 ⟨Ax0_0, nx0_0, cx0_0, rfl, o, b⟩
  obtain ⟨fp_x0, S'⟩ := S.has b o c.size
  replace c := c.trans (b.mono c.size)
  clear S; have S := S'; clear S' o b
  go_wp2_with fail
  refine (IM.out _ _ _ d0 _ ((S.own_ 0 rfl).rd) hz0).mono ?_
  rintro e w5 ⟨xg0_0, xg0_1, xg0_2, xg0_3, xg0_4, Ag0_5, ng0_5, cg0_5, rfl, o, b⟩
  obtain ⟨fp_g0, S'⟩ := S.has b o c.size
  replace c := c.trans (b.mono c.size)
  clear S; have S := S'; clear S' o b
  rw [← HFX0.out] at S
  rw [← HFX1.out]
  replace S := S.box c.size #[.int .i64 xg0_0, .int .i64 xg0_1, .int .i64 xg0_2, .int .i64 xg0_3, .int .i64 xg0_4, .slice Ag0_5 ng0_5 cg0_5] 25
  replace c := c.alloc c.size (.cells #[.int .i64 xg0_0, .int .i64 xg0_1, .int .i64 xg0_2, .int .i64 xg0_3, .int .i64 xg0_4, .slice Ag0_5 ng0_5 cg0_5] 25)
  have f0 : (w5.alloc (.cells #[.int .i64 xg0_0, .int .i64 xg0_1, .int .i64 xg0_2, .int .i64 xg0_3, .int .i64 xg0_4, .slice Ag0_5 ng0_5 cg0_5] 25)).cell? ⟨w5.heap.size, 0, none⟩ = some (.int .i64 xg0_0) := (S.at_ 0 rfl).cell 0
  have f1 : (w5.alloc (.cells #[.int .i64 xg0_0, .int .i64 xg0_1, .int .i64 xg0_2, .int .i64 xg0_3, .int .i64 xg0_4, .slice Ag0_5 ng0_5 cg0_5] 25)).cell? ⟨w5.heap.size, 1, none⟩ = some (.int .i64 xg0_1) := (S.at_ 0 rfl).cell 1
  have f2 : (w5.alloc (.cells #[.int .i64 xg0_0, .int .i64 xg0_1, .int .i64 xg0_2, .int .i64 xg0_3, .int .i64 xg0_4, .slice Ag0_5 ng0_5 cg0_5] 25)).cell? ⟨w5.heap.size, 2, none⟩ = some (.int .i64 xg0_2) := (S.at_ 0 rfl).cell 2
  have f3 : (w5.alloc (.cells #[.int .i64 xg0_0, .int .i64 xg0_1, .int .i64 xg0_2, .int .i64 xg0_3, .int .i64 xg0_4, .slice Ag0_5 ng0_5 cg0_5] 25)).cell? ⟨w5.heap.size, 3, none⟩ = some (.int .i64 xg0_3) := (S.at_ 0 rfl).cell 3
  have f4 : (w5.alloc (.cells #[.int .i64 xg0_0, .int .i64 xg0_1, .int .i64 xg0_2, .int .i64 xg0_3, .int .i64 xg0_4, .slice Ag0_5 ng0_5 cg0_5] 25)).cell? ⟨w5.heap.size, 4, none⟩ = some (.int .i64 xg0_4) := (S.at_ 0 rfl).cell 4
  have f5 : (w5.alloc (.cells #[.int .i64 xg0_0, .int .i64 xg0_1, .int .i64 xg0_2, .int .i64 xg0_3, .int .i64 xg0_4, .slice Ag0_5 ng0_5 cg0_5] 25)).cell? ⟨w5.heap.size, 5, none⟩ = some (.slice Ag0_5 ng0_5 cg0_5) := (S.at_ 0 rfl).cell 5
  have f6 : (w5.alloc (.cells #[.int .i64 xg0_0, .int .i64 xg0_1, .int .i64 xg0_2, .int .i64 xg0_3, .int .i64 xg0_4, .slice Ag0_5 ng0_5 cg0_5] 25)).cell? ⟨w2.heap.size, 0, none⟩ = some (.int .i64 xw0_0) := (S.at_ 3 rfl).cell 0
  have f7 : (w5.alloc (.cells #[.int .i64 xg0_0, .int .i64 xg0_1, .int .i64 xg0_2, .int .i64 xg0_3, .int .i64 xg0_4, .slice Ag0_5 ng0_5 cg0_5] 25)).cell? ⟨w2.heap.size, 1, none⟩ = some (.int .i64 xw0_1) := (S.at_ 3 rfl).cell 1
  have f8 : (w5.alloc (.cells #[.int .i64 xg0_0, .int .i64 xg0_1, .int .i64 xg0_2, .int .i64 xg0_3, .int .i64 xg0_4, .slice Ag0_5 ng0_5 cg0_5] 25)).cell? ⟨w2.heap.size, 2, none⟩ = some (.int .i64 xw0_2) := (S.at_ 3 rfl).cell 2
  have f9 : (w5.alloc (.cells #[.int .i64 xg0_0, .int .i64 xg0_1, .int .i64 xg0_2, .int .i64 xg0_3, .int .i64 xg0_4, .slice Ag0_5 ng0_5 cg0_5] 25)).cell? ⟨w2.heap.size, 3, none⟩ = some (.int .i64 xw0_3) := (S.at_ 3 rfl).cell 3
  have f10 : (w5.alloc (.cells #[.int .i64 xg0_0, .int .i64 xg0_1, .int .i64 xg0_2, .int .i64 xg0_3, .int .i64 xg0_4, .slice Ag0_5 ng0_5 cg0_5] 25)).cell? ⟨w2.heap.size, 4, none⟩ = some (.int .i64 xw0_4) := (S.at_ 3 rfl).cell 4
  have f11 : (w5.alloc (.cells #[.int .i64 xg0_0, .int .i64 xg0_1, .int .i64 xg0_2, .int .i64 xg0_3, .int .i64 xg0_4, .slice Ag0_5 ng0_5 cg0_5] 25)).cell? ⟨w2.heap.size, 5, none⟩ = some (.slice Aw0_5 nw0_5 cw0_5) := (S.at_ 3 rfl).cell 5
  go_wp2_with fail
  generalize w5.alloc (.cells #[.int .i64 xg0_0, .int .i64 xg0_1, .int .i64 xg0_2, .int .i64 xg0_3, .int .i64 xg0_4, .slice Ag0_5 ng0_5 cg0_5] 25) = w6 at *
  refine (eqJobs_yes _ _ _ _ _ _ _ _ _ _ _ _ _ _ fx0 _ ((S.own_ 1 rfl).rd) ((S.own_ 4 rfl).rd) (Nat.le_refl _) (Nat.le_refl _) hfz0).mono ?_
  rintro e w7 ⟨rfl, b⟩
  replace c := c.trans (b.mono c.size)
  replace S := S.keep b
  clear b f0 f1 f2 f3 f4 f5 f6 f7 f8 f9 f10 f11
  go_wp2_with fail
  refine (toI_made _ _ _ d0 _ ((h0.keep c).up c.size) hz0).mono ?_
  rintro e w8 ⟨Az0_0, nz0_0, cz0_0, rfl, o, b⟩
  obtain ⟨fp_z0, S'⟩ := S.has b o c.size
  replace c := c.trans (b.mono c.size)
  clear S; have S := S'; clear S' o b
  go_wp2_with fail
  refine (eqI_yes _ _ _ _ _ _ _ _ d0 _ ((S.own_ 3 rfl).rd) ((S.own_ 0 rfl).rd) (by omega)).mono ?_
  rintro e w9 ⟨rfl, b⟩
  replace c := c.trans (b.mono c.size)
  replace S := S.keep b
  clear b
  go_wp2_with fail
  refine (markI_any _ _ _ d0 _ _ (S.own_ 3 rfl) (S.nodup_own 3 rfl) (by omega) (1) (by omega) (by omega)).mono ?_
  rintro e w10 ⟨m0, rfl, o, t, mk_x0, en_x0, es_x0⟩
  have b := S.below 3 rfl t c.size
  have S' := S.mark 3 rfl t o
  replace c := c.trans b
  clear S; have S := S'; clear S' o t b
  have nb0 : d0.length ≤ 2097154 := by
    first | omega | exact i_n_le _ (by omega)
  have qk : ¬ (1 + (d0.length : Int) < 0) := by omega
  have f0 : (w10).cell? ⟨w5.heap.size, 0, none⟩ = some (.int .i64 xg0_0) := (S.at_ 1 rfl).cell 0
  have f1 : (w10).cell? ⟨w5.heap.size, 1, none⟩ = some (.int .i64 xg0_1) := (S.at_ 1 rfl).cell 1
  have f2 : (w10).cell? ⟨w5.heap.size, 2, none⟩ = some (.int .i64 xg0_2) := (S.at_ 1 rfl).cell 2
  have f3 : (w10).cell? ⟨w5.heap.size, 3, none⟩ = some (.int .i64 xg0_3) := (S.at_ 1 rfl).cell 3
  have f4 : (w10).cell? ⟨w5.heap.size, 4, none⟩ = some (.int .i64 xg0_4) := (S.at_ 1 rfl).cell 4
  have f5 : (w10).cell? ⟨w5.heap.size, 5, none⟩ = some (.slice Ag0_5 ng0_5 cg0_5) := (S.at_ 1 rfl).cell 5
  have f6 : (w10).cell? ⟨w2.heap.size, 0, none⟩ = some (.int .i64 xw0_0) := (S.at_ 4 rfl).cell 0
  have f7 : (w10).cell? ⟨w2.heap.size, 1, none⟩ = some (.int .i64 xw0_1) := (S.at_ 4 rfl).cell 1
  have f8 : (w10).cell? ⟨w2.heap.size, 2, none⟩ = some (.int .i64 xw0_2) := (S.at_ 4 rfl).cell 2
  have f9 : (w10).cell? ⟨w2.heap.size, 3, none⟩ = some (.int .i64 xw0_3) := (S.at_ 4 rfl).cell 3
  have f10 : (w10).cell? ⟨w2.heap.size, 4, none⟩ = some (.int .i64 xw0_4) := (S.at_ 4 rfl).cell 4
  have f11 : (w10).cell? ⟨w2.heap.size, 5, none⟩ = some (.slice Aw0_5 nw0_5 cw0_5) := (S.at_ 4 rfl).cell 5
  go_wp2_with fail
  refine (eqJobs_yes _ _ _ _ _ _ _ _ _ _ _ _ _ _ fx0 _ ((S.own_ 2 rfl).rd) ((S.own_ 5 rfl).rd) (Nat.le_refl _) (Nat.le_refl _) hfz0).mono ?_
  rintro e w11 ⟨rfl, b⟩
  replace c := c.trans (b.mono c.size)
  replace S := S.keep b
  clear b f0 f1 f2 f3 f4 f5 f6 f7 f8 f9 f10 f11
  have nr0 : fx0.n ≤ 9437193 := by
    first | omega | exact jobs_n_le _ (by omega)
  have f0 : (w11).cell? ⟨w5.heap.size, 0, none⟩ = some (.int .i64 xg0_0) := (S.at_ 1 rfl).cell 0
  have f1 : (w11).cell? ⟨w5.heap.size, 1, none⟩ = some (.int .i64 xg0_1) := (S.at_ 1 rfl).cell 1
  have f2 : (w11).cell? ⟨w5.heap.size, 2, none⟩ = some (.int .i64 xg0_2) := (S.at_ 1 rfl).cell 2
  have f3 : (w11).cell? ⟨w5.heap.size, 3, none⟩ = some (.int .i64 xg0_3) := (S.at_ 1 rfl).cell 3
  have f4 : (w11).cell? ⟨w5.heap.size, 4, none⟩ = some (.int .i64 xg0_4) := (S.at_ 1 rfl).cell 4
  have f5 : (w11).cell? ⟨w5.heap.size, 5, none⟩ = some (.slice Ag0_5 ng0_5 cg0_5) := (S.at_ 1 rfl).cell 5
  go_wp2_with fail
  refine (markJobs_any _ _ _ _ _ _ fx0 _ _ (S.own_ 2 rfl) (S.nodup_own 2 rfl) hfz0 (1) (by omega) (by omega)).mono ?_
  rintro e w12 ⟨e0, rfl, o, t, mk_g0, en_g0, es_g0⟩
  have b := S.below 2 rfl t c.size
  have S' := S.mark 2 rfl t o
  replace c := c.trans b
  clear S; have S := S'; clear S' o t b f0 f1 f2 f3 f4 f5
  have f0 : (w12).cell? ⟨w5.heap.size, 0, none⟩ = some (.int .i64 xg0_0) := (S.at_ 1 rfl).cell 0
  have f1 : (w12).cell? ⟨w5.heap.size, 1, none⟩ = some (.int .i64 xg0_1) := (S.at_ 1 rfl).cell 1
  have f2 : (w12).cell? ⟨w5.heap.size, 2, none⟩ = some (.int .i64 xg0_2) := (S.at_ 1 rfl).cell 2
  have f3 : (w12).cell? ⟨w5.heap.size, 3, none⟩ = some (.int .i64 xg0_3) := (S.at_ 1 rfl).cell 3
  have f4 : (w12).cell? ⟨w5.heap.size, 4, none⟩ = some (.int .i64 xg0_4) := (S.at_ 1 rfl).cell 4
  have f5 : (w12).cell? ⟨w5.heap.size, 5, none⟩ = some (.slice Ag0_5 ng0_5 cg0_5) := (S.at_ 1 rfl).cell 5
  go_wp2_with fail
  refine (heldJobs_any _ _ _ _ _ _ e0 _ _ ((S.own_ 2 rfl).rd) (Nat.le_refl _) (by omega) (1) (by omega) (by omega) mk_g0).mono ?_
  rintro e w13 ⟨rfl, b⟩
  rw [en_g0]
  have q13 : ¬ (1 + (fx0.n : Int) < 0) := by omega
  replace c := c.trans (b.mono c.size)
  replace S := S.keep b
  clear b f0 f1 f2 f3 f4 f5
  go_wp2_with fail
  refine (toI_made _ _ _ d0 _ ((h0.keep c).up c.size) hz0).mono ?_
  rintro e w14 ⟨At0_0, nt0_0, ct0_0, rfl, o, b⟩
  obtain ⟨fp_t0, S'⟩ := S.has b o c.size
  replace c := c.trans (b.mono c.size)
  clear S; have S := S'; clear S' o b
  go_wp2_with fail
  refine (IM.out _ _ _ d0 _ ((S.own_ 0 rfl).rd) hz0).mono ?_
  rintro e w15 ⟨xh0_0, xh0_1, xh0_2, xh0_3, xh0_4, Ah0_5, nh0_5, ch0_5, rfl, o, b⟩
  obtain ⟨fp_h0, S'⟩ := S.has b o c.size
  replace c := c.trans (b.mono c.size)
  clear S; have S := S'; clear S' o b
  rw [← HFX0.out] at S
  rw [← HFX1.out]
  replace S := S.box c.size #[.int .i64 xh0_0, .int .i64 xh0_1, .int .i64 xh0_2, .int .i64 xh0_3, .int .i64 xh0_4, .slice Ah0_5 nh0_5 ch0_5] 25
  replace c := c.alloc c.size (.cells #[.int .i64 xh0_0, .int .i64 xh0_1, .int .i64 xh0_2, .int .i64 xh0_3, .int .i64 xh0_4, .slice Ah0_5 nh0_5 ch0_5] 25)
  have f0 : (w15.alloc (.cells #[.int .i64 xh0_0, .int .i64 xh0_1, .int .i64 xh0_2, .int .i64 xh0_3, .int .i64 xh0_4, .slice Ah0_5 nh0_5 ch0_5] 25)).cell? ⟨w15.heap.size, 0, none⟩ = some (.int .i64 xh0_0) := (S.at_ 0 rfl).cell 0
  have f1 : (w15.alloc (.cells #[.int .i64 xh0_0, .int .i64 xh0_1, .int .i64 xh0_2, .int .i64 xh0_3, .int .i64 xh0_4, .slice Ah0_5 nh0_5 ch0_5] 25)).cell? ⟨w15.heap.size, 1, none⟩ = some (.int .i64 xh0_1) := (S.at_ 0 rfl).cell 1
  have f2 : (w15.alloc (.cells #[.int .i64 xh0_0, .int .i64 xh0_1, .int .i64 xh0_2, .int .i64 xh0_3, .int .i64 xh0_4, .slice Ah0_5 nh0_5 ch0_5] 25)).cell? ⟨w15.heap.size, 2, none⟩ = some (.int .i64 xh0_2) := (S.at_ 0 rfl).cell 2
  have f3 : (w15.alloc (.cells #[.int .i64 xh0_0, .int .i64 xh0_1, .int .i64 xh0_2, .int .i64 xh0_3, .int .i64 xh0_4, .slice Ah0_5 nh0_5 ch0_5] 25)).cell? ⟨w15.heap.size, 3, none⟩ = some (.int .i64 xh0_3) := (S.at_ 0 rfl).cell 3
  have f4 : (w15.alloc (.cells #[.int .i64 xh0_0, .int .i64 xh0_1, .int .i64 xh0_2, .int .i64 xh0_3, .int .i64 xh0_4, .slice Ah0_5 nh0_5 ch0_5] 25)).cell? ⟨w15.heap.size, 4, none⟩ = some (.int .i64 xh0_4) := (S.at_ 0 rfl).cell 4
  have f5 : (w15.alloc (.cells #[.int .i64 xh0_0, .int .i64 xh0_1, .int .i64 xh0_2, .int .i64 xh0_3, .int .i64 xh0_4, .slice Ah0_5 nh0_5 ch0_5] 25)).cell? ⟨w15.heap.size, 5, none⟩ = some (.slice Ah0_5 nh0_5 ch0_5) := (S.at_ 0 rfl).cell 5
  have f6 : (w15.alloc (.cells #[.int .i64 xh0_0, .int .i64 xh0_1, .int .i64 xh0_2, .int .i64 xh0_3, .int .i64 xh0_4, .slice Ah0_5 nh0_5 ch0_5] 25)).cell? ⟨w2.heap.size, 0, none⟩ = some (.int .i64 xw0_0) := (S.at_ 7 rfl).cell 0
  have f7 : (w15.alloc (.cells #[.int .i64 xh0_0, .int .i64 xh0_1, .int .i64 xh0_2, .int .i64 xh0_3, .int .i64 xh0_4, .slice Ah0_5 nh0_5 ch0_5] 25)).cell? ⟨w2.heap.size, 1, none⟩ = some (.int .i64 xw0_1) := (S.at_ 7 rfl).cell 1
  have f8 : (w15.alloc (.cells #[.int .i64 xh0_0, .int .i64 xh0_1, .int .i64 xh0_2, .int .i64 xh0_3, .int .i64 xh0_4, .slice Ah0_5 nh0_5 ch0_5] 25)).cell? ⟨w2.heap.size, 2, none⟩ = some (.int .i64 xw0_2) := (S.at_ 7 rfl).cell 2
  have f9 : (w15.alloc (.cells #[.int .i64 xh0_0, .int .i64 xh0_1, .int .i64 xh0_2, .int .i64 xh0_3, .int .i64 xh0_4, .slice Ah0_5 nh0_5 ch0_5] 25)).cell? ⟨w2.heap.size, 3, none⟩ = some (.int .i64 xw0_3) := (S.at_ 7 rfl).cell 3
  have f10 : (w15.alloc (.cells #[.int .i64 xh0_0, .int .i64 xh0_1, .int .i64 xh0_2, .int .i64 xh0_3, .int .i64 xh0_4, .slice Ah0_5 nh0_5 ch0_5] 25)).cell? ⟨w2.heap.size, 4, none⟩ = some (.int .i64 xw0_4) := (S.at_ 7 rfl).cell 4
  have f11 : (w15.alloc (.cells #[.int .i64 xh0_0, .int .i64 xh0_1, .int .i64 xh0_2, .int .i64 xh0_3, .int .i64 xh0_4, .slice Ah0_5 nh0_5 ch0_5] 25)).cell? ⟨w2.heap.size, 5, none⟩ = some (.slice Aw0_5 nw0_5 cw0_5) := (S.at_ 7 rfl).cell 5
  go_wp2_with fail
  generalize w15.alloc (.cells #[.int .i64 xh0_0, .int .i64 xh0_1, .int .i64 xh0_2, .int .i64 xh0_3, .int .i64 xh0_4, .slice Ah0_5 nh0_5 ch0_5] 25) = w16 at *
  refine (eqJobs_yes _ _ _ _ _ _ _ _ _ _ _ _ _ _ fx0 _ ((S.own_ 1 rfl).rd) ((S.own_ 8 rfl).rd) (Nat.le_refl _) (Nat.le_refl _) hfz0).mono ?_
  rintro e w17 ⟨rfl, b⟩
  replace c := c.trans (b.mono c.size)
  replace S := S.keep b
  clear b f0 f1 f2 f3 f4 f5 f6 f7 f8 f9 f10 f11
  have f0 : (w17).cell? ⟨w5.heap.size, 0, none⟩ = some (.int .i64 xg0_0) := (S.at_ 4 rfl).cell 0
  have f1 : (w17).cell? ⟨w5.heap.size, 1, none⟩ = some (.int .i64 xg0_1) := (S.at_ 4 rfl).cell 1
  have f2 : (w17).cell? ⟨w5.heap.size, 2, none⟩ = some (.int .i64 xg0_2) := (S.at_ 4 rfl).cell 2
  have f3 : (w17).cell? ⟨w5.heap.size, 3, none⟩ = some (.int .i64 xg0_3) := (S.at_ 4 rfl).cell 3
  have f4 : (w17).cell? ⟨w5.heap.size, 4, none⟩ = some (.int .i64 xg0_4) := (S.at_ 4 rfl).cell 4
  have f5 : (w17).cell? ⟨w5.heap.size, 5, none⟩ = some (.slice Ag0_5 ng0_5 cg0_5) := (S.at_ 4 rfl).cell 5
  go_wp2_with fail
  refine (heldJobs_any _ _ _ _ _ _ e0 _ _ ((S.own_ 5 rfl).rd) (Nat.le_refl _) (by omega) (1) (by omega) (by omega) mk_g0).mono ?_
  rintro e w18 ⟨rfl, b⟩
  rw [en_g0]
  have q18 : ¬ (1 + (fx0.n : Int) < 0) := by omega
  replace c := c.trans (b.mono c.size)
  replace S := S.keep b
  clear b f0 f1 f2 f3 f4 f5
  go_wp2
  go_ret
  exact ⟨rfl, c⟩

end Go.Proofs.Ytepnghjmpbfmcaa

/-
  Exact laws, over open contracts: whatever program function meets the model's contract, the law answers true and writes nothing that was there. Made by program (wip/lawgen.py).
-/
import Derived.Test.YtnjfdnjakogpmaaBook
import Derived.Test.YtnjfdnjakogpmaaKA
import Derived.Deep.RegionHeld3
namespace Go.Proofs.Ytnjfdnjakogpmaa
set_option maxRecDepth 100000
open Go.RowKit

set_option maxHeartbeats 12800000 in
theorem lawSameBook (f : BookM → BookM → Bool)
    (hs : ∀ (xa0_0 : Int) (xa0_1 : Int) (Aa0_2 : Option Addr) (na0_2 ca0_2 : Nat) (d0 : BookM) (xa1_0 : Int) (xa1_1 : Int) (Aa1_2 : Option Addr) (na1_2 ca1_2 : Nat) (d1 : BookM) (w : World), Rd w w.heap.size (d0.cells) [.int .i64 xa0_0, .int .i64 xa0_1, .slice Aa0_2 na0_2 ca0_2] → d0.sz ≤ 1048576 → Rd w w.heap.size (d1.cells) [.int .i64 xa1_0, .int .i64 xa1_1, .slice Aa1_2 na1_2 ca1_2] → d1.sz ≤ 1048576 → Calls Try.prog 43 #[.agg #[.int .i64 xa0_0, .int .i64 xa0_1, .slice Aa0_2 na0_2 ca0_2], .agg #[.int .i64 xa1_0, .int .i64 xa1_1, .slice Aa1_2 na1_2 ca1_2]] w (fun e w' => e = .returned (.bool (f d0 d1)) ∧ Below w.heap.size w w'))
    (hi : ∀ (xa0_0 : Int) (xa0_1 : Int) (Aa0_2 : Option Addr) (na0_2 ca0_2 : Nat) (d0 : BookM) (xa1_0 : Int) (xa1_1 : Int) (Aa1_2 : Option Addr) (na1_2 ca1_2 : Nat) (d1 : BookM) (w : World), Rd w w.heap.size (d0.cells) [.int .i64 xa0_0, .int .i64 xa0_1, .slice Aa0_2 na0_2 ca0_2] → d0.sz ≤ 1048576 → Rd w w.heap.size (d1.cells) [.int .i64 xa1_0, .int .i64 xa1_1, .slice Aa1_2 na1_2 ca1_2] → d1.sz ≤ 1048576 → Calls Try.prog 44 #[.agg #[.int .i64 xa0_0, .int .i64 xa0_1, .slice Aa0_2 na0_2 ca0_2], .agg #[.int .i64 xa1_0, .int .i64 xa1_1, .slice Aa1_2 na1_2 ca1_2]] w (fun e w' => e = .returned (.bool (f d0 d1)) ∧ Below w.heap.size w w'))
    (xa0_0 : Int) (xa0_1 : Int) (Aa0_2 : Option Addr) (na0_2 ca0_2 : Nat) (d0 : BookM) (xa1_0 : Int) (xa1_1 : Int) (Aa1_2 : Option Addr) (na1_2 ca1_2 : Nat) (d1 : BookM) (w : World) (h0 : Rd w w.heap.size (d0.cells) [.int .i64 xa0_0, .int .i64 xa0_1, .slice Aa0_2 na0_2 ca0_2]) (h1 : Rd w w.heap.size (d1.cells) [.int .i64 xa1_0, .int .i64 xa1_1, .slice Aa1_2 na1_2 ca1_2]) :
    Calls Try.prog 12 #[.agg #[.int .i64 xa0_0, .int .i64 xa0_1, .slice Aa0_2 na0_2 ca0_2], .agg #[.int .i64 xa1_0, .int .i64 xa1_1, .slice Aa1_2 na1_2 ca1_2]] w fun e w' => e = .returned (.bool true) ∧ Below w.heap.size w w' := by
  have SP := Lib.hid hs
  have IM := Lib.hid hi
  clear hs hi
  have S := Sep.nil w w.heap.size
  have c := Below.refl w.heap.size w
  replace S := S.box c.size #[.int .i64 xa0_0, .int .i64 xa0_1, .slice Aa0_2 na0_2 ca0_2] 24
  replace c := c.alloc c.size (.cells #[.int .i64 xa0_0, .int .i64 xa0_1, .slice Aa0_2 na0_2 ca0_2] 24)
  replace S := S.boxAt c.size (w.heap.size + 1) (by simp) #[.int .i64 xa1_0, .int .i64 xa1_1, .slice Aa1_2 na1_2 ca1_2] 24
  replace c := c.alloc c.size (.cells #[.int .i64 xa1_0, .int .i64 xa1_1, .slice Aa1_2 na1_2 ca1_2] 24)
  go_enter Try.func12, Try.ntmps12
  go_wp2_with fail
  generalize (w.alloc (.cells #[.int .i64 xa0_0, .int .i64 xa0_1, .slice Aa0_2 na0_2 ca0_2] 24)).alloc (.cells #[.int .i64 xa1_0, .int .i64 xa1_1, .slice Aa1_2 na1_2 ca1_2] 24) = w1 at *
  refine (szBook_any _ _ _ d0 _ _ _ (h0.keep c) c.size (by omega) (by omega)).mono ?_
  rintro e w2 ⟨rfl, b⟩
  replace c := c.trans (b.mono c.size)
  replace S := S.keep b
  clear b
  by_cases hzi0 : ((d0.sz : Nat) : Int) ≤ 1048576
  case neg =>
    rw [left, if_neg hzi0]
    go_wp2
    go_ret
    exact ⟨rfl, c⟩
  rw [left, if_pos hzi0]
  have hz0 : d0.sz ≤ 1048576 := by omega
  have qz0 : ¬ ((1048576 : Int) - (d0.sz : Int) < 0) := by omega
  have f0 : (w2).cell? ⟨w.heap.size + 1, 0, none⟩ = some (.int .i64 xa1_0) := (S.at_ 0 rfl).cell 0
  have f1 : (w2).cell? ⟨w.heap.size + 1, 1, none⟩ = some (.int .i64 xa1_1) := (S.at_ 0 rfl).cell 1
  have f2 : (w2).cell? ⟨w.heap.size + 1, 2, none⟩ = some (.slice Aa1_2 na1_2 ca1_2) := (S.at_ 0 rfl).cell 2
  go_wp2_with fail
  refine (szBook_any _ _ _ d1 _ _ _ (h1.keep c) c.size (by omega) (by omega)).mono ?_
  rintro e w3 ⟨rfl, b⟩
  replace c := c.trans (b.mono c.size)
  replace S := S.keep b
  clear b f0 f1 f2
  by_cases hzi1 : ((d1.sz : Nat) : Int) ≤ 1048576 - (d0.sz : Int)
  case neg =>
    rw [left, if_neg hzi1]
    go_wp2
    go_ret
    exact ⟨rfl, c⟩
  rw [left, if_pos hzi1]
  have hz1 : d1.sz ≤ 1048576 := by omega
  have qz1 : ¬ ((1048576 - (d0.sz : Int) : Int) - (d1.sz : Int) < 0) := by omega
  obtain ⟨fx0, hfx0⟩ : ∃ q, q = (f d0 d1) := ⟨_, rfl⟩
  have HFX0 := Lib.hid hfx0
  clear hfx0
  have f0 : (w3).cell? ⟨w.heap.size, 0, none⟩ = some (.int .i64 xa0_0) := (S.at_ 1 rfl).cell 0
  have f1 : (w3).cell? ⟨w.heap.size, 1, none⟩ = some (.int .i64 xa0_1) := (S.at_ 1 rfl).cell 1
  have f2 : (w3).cell? ⟨w.heap.size, 2, none⟩ = some (.slice Aa0_2 na0_2 ca0_2) := (S.at_ 1 rfl).cell 2
  have f3 : (w3).cell? ⟨w.heap.size + 1, 0, none⟩ = some (.int .i64 xa1_0) := (S.at_ 0 rfl).cell 0
  have f4 : (w3).cell? ⟨w.heap.size + 1, 1, none⟩ = some (.int .i64 xa1_1) := (S.at_ 0 rfl).cell 1
  have f5 : (w3).cell? ⟨w.heap.size + 1, 2, none⟩ = some (.slice Aa1_2 na1_2 ca1_2) := (S.at_ 0 rfl).cell 2
  have SH := Lib.hid S
  have CH := Lib.hid c
  clear S c
  go_wp2_with fail
  go_region_held3 (fun v => v.cell? ⟨w.heap.size, 0, none⟩ = some (.int .i64 xa0_0) ∧ v.cell? ⟨w.heap.size, 1, none⟩ = some (.int .i64 xa0_1) ∧ v.cell? ⟨w.heap.size, 2, none⟩ = some (.slice Aa0_2 na0_2 ca0_2) ∧ v.cell? ⟨w.heap.size + 1, 0, none⟩ = some (.int .i64 xa1_0) ∧ v.cell? ⟨w.heap.size + 1, 1, none⟩ = some (.int .i64 xa1_1) ∧ v.cell? ⟨w.heap.size + 1, 2, none⟩ = some (.slice Aa1_2 na1_2 ca1_2)) (go_keep)
    (first
      | (go_at_call 15
         with_reducible refine (toBook_made _ _ _ d0 _ ((h0.keep CH.out.drew).up CH.out.drew.size) hz0).mono ?_
         rintro e w4 ⟨xs0_0, xs0_1, As0_2, ns0_2, cs0_2, rfl, o, b⟩
         obtain ⟨fp_s0, S1⟩ := (SH.out.keep ((Below.refl _ _).drew)).has b o CH.out.drew.size
         have g0 : (w4).cell? ⟨w.heap.size, 0, none⟩ = some (.int .i64 xa0_0) := (S1.at_ 2 rfl).cell 0
         have g1 : (w4).cell? ⟨w.heap.size, 1, none⟩ = some (.int .i64 xa0_1) := (S1.at_ 2 rfl).cell 1
         have g2 : (w4).cell? ⟨w.heap.size, 2, none⟩ = some (.slice Aa0_2 na0_2 ca0_2) := (S1.at_ 2 rfl).cell 2
         have g3 : (w4).cell? ⟨w.heap.size + 1, 0, none⟩ = some (.int .i64 xa1_0) := (S1.at_ 1 rfl).cell 0
         have g4 : (w4).cell? ⟨w.heap.size + 1, 1, none⟩ = some (.int .i64 xa1_1) := (S1.at_ 1 rfl).cell 1
         have g5 : (w4).cell? ⟨w.heap.size + 1, 2, none⟩ = some (.slice Aa1_2 na1_2 ca1_2) := (S1.at_ 1 rfl).cell 2
         have SA0 := Lib.hid S1
         have CA0 := Lib.hid (CH.out.drew.trans (b.mono CH.out.drew.size))
         clear S1 o b)
      | (go_at_call 15
         with_reducible refine (toBook_made _ _ _ d1 _ ((h1.keep CA0.out).up CA0.out.size) hz1).mono ?_
         rintro e w5 ⟨xs1_0, xs1_1, As1_2, ns1_2, cs1_2, rfl, o, b⟩
         obtain ⟨fp_s1, S1⟩ := SA0.out.has b o CA0.out.size
         have h0 : (w5).cell? ⟨w.heap.size, 0, none⟩ = some (.int .i64 xa0_0) := (S1.at_ 3 rfl).cell 0
         have h1 : (w5).cell? ⟨w.heap.size, 1, none⟩ = some (.int .i64 xa0_1) := (S1.at_ 3 rfl).cell 1
         have h2 : (w5).cell? ⟨w.heap.size, 2, none⟩ = some (.slice Aa0_2 na0_2 ca0_2) := (S1.at_ 3 rfl).cell 2
         have h3 : (w5).cell? ⟨w.heap.size + 1, 0, none⟩ = some (.int .i64 xa1_0) := (S1.at_ 2 rfl).cell 0
         have h4 : (w5).cell? ⟨w.heap.size + 1, 1, none⟩ = some (.int .i64 xa1_1) := (S1.at_ 2 rfl).cell 1
         have h5 : (w5).cell? ⟨w.heap.size + 1, 2, none⟩ = some (.slice Aa1_2 na1_2 ca1_2) := (S1.at_ 2 rfl).cell 2
         have SA1 := Lib.hid S1
         have CA1 := Lib.hid (CA0.out.trans (b.mono CA0.out.size))
         clear S1 o b)
      | (go_at_call 43
         refine (SP.out _ _ _ _ _ d0 _ _ _ _ _ d1 _ ((SA1.out.own_ 1 rfl).rd) hz0 ((SA1.out.own_ 0 rfl).rd) hz1).mono ?_
         rintro e w6 ⟨rfl, b⟩
         have S1 := SA1.out.keep b
         have i0 : (w6).cell? ⟨w.heap.size, 0, none⟩ = some (.int .i64 xa0_0) := (S1.at_ 3 rfl).cell 0
         have i1 : (w6).cell? ⟨w.heap.size, 1, none⟩ = some (.int .i64 xa0_1) := (S1.at_ 3 rfl).cell 1
         have i2 : (w6).cell? ⟨w.heap.size, 2, none⟩ = some (.slice Aa0_2 na0_2 ca0_2) := (S1.at_ 3 rfl).cell 2
         have i3 : (w6).cell? ⟨w.heap.size + 1, 0, none⟩ = some (.int .i64 xa1_0) := (S1.at_ 2 rfl).cell 0
         have i4 : (w6).cell? ⟨w.heap.size + 1, 1, none⟩ = some (.int .i64 xa1_1) := (S1.at_ 2 rfl).cell 1
         have i5 : (w6).cell? ⟨w.heap.size + 1, 2, none⟩ = some (.slice Aa1_2 na1_2 ca1_2) := (S1.at_ 2 rfl).cell 2
         have SZ := Lib.hid S1
         have CZ := Lib.hid (CA1.out.trans (b.mono CA1.out.size))
         clear S1 b))
  have S := SZ.out
  have c := CZ.out
  clear SH CH SZ CZ SA0 CA0 SA1 CA1 f0 f1 f2 f3 f4 f5 g0 g1 g2 g3 g4 g5 h0 h1 h2 h3 h4 h5 i0 i1 i2 i3 i4 i5
  rw [← HFX0.out]
  have f0 : (w6).cell? ⟨w.heap.size, 0, none⟩ = some (.int .i64 xa0_0) := (S.at_ 3 rfl).cell 0
  have f1 : (w6).cell? ⟨w.heap.size, 1, none⟩ = some (.int .i64 xa0_1) := (S.at_ 3 rfl).cell 1
  have f2 : (w6).cell? ⟨w.heap.size, 2, none⟩ = some (.slice Aa0_2 na0_2 ca0_2) := (S.at_ 3 rfl).cell 2
  go_wp2_with fail
  refine (toBook_made _ _ _ d0 _ ((h0.keep c).up c.size) hz0).mono ?_
  rintro e w7 ⟨xx0_0, xx0_1, Ax0_2, nx0_2, cx0_2, rfl, o, b⟩
  obtain ⟨fp_x0, S'⟩ := S.has b o c.size
  replace c := c.trans (b.mono c.size)
  clear S; have S := S'; clear S' o b f0 f1 f2
  replace S := S.box c.size #[.int .i64 xx0_0, .int .i64 xx0_1, .slice Ax0_2 nx0_2 cx0_2] 29
  replace c := c.alloc c.size (.cells #[.int .i64 xx0_0, .int .i64 xx0_1, .slice Ax0_2 nx0_2 cx0_2] 29)
  have f0 : (w7.alloc (.cells #[.int .i64 xx0_0, .int .i64 xx0_1, .slice Ax0_2 nx0_2 cx0_2] 29)).cell? ⟨w.heap.size + 1, 0, none⟩ = some (.int .i64 xa1_0) := (S.at_ 4 rfl).cell 0
  have f1 : (w7.alloc (.cells #[.int .i64 xx0_0, .int .i64 xx0_1, .slice Ax0_2 nx0_2 cx0_2] 29)).cell? ⟨w.heap.size + 1, 1, none⟩ = some (.int .i64 xa1_1) := (S.at_ 4 rfl).cell 1
  have f2 : (w7.alloc (.cells #[.int .i64 xx0_0, .int .i64 xx0_1, .slice Ax0_2 nx0_2 cx0_2] 29)).cell? ⟨w.heap.size + 1, 2, none⟩ = some (.slice Aa1_2 na1_2 ca1_2) := (S.at_ 4 rfl).cell 2
  go_wp2_with fail
  generalize w7.alloc (.cells #[.int .i64 xx0_0, .int .i64 xx0_1, .slice Ax0_2 nx0_2 cx0_2] 29) = w8 at *
  refine (toBook_made _ _ _ d1 _ ((h1.keep c).up c.size) hz1).mono ?_
  rintro e w9 ⟨xx1_0, xx1_1, Ax1_2, nx1_2, cx1_2, rfl, o, b⟩
  obtain ⟨fp_x1, S'⟩ := S.has b o c.size
  replace c := c.trans (b.mono c.size)
  clear S; have S := S'; clear S' o b f0 f1 f2
  replace S := S.box c.size #[.int .i64 xx1_0, .int .i64 xx1_1, .slice Ax1_2 nx1_2 cx1_2] 29
  replace c := c.alloc c.size (.cells #[.int .i64 xx1_0, .int .i64 xx1_1, .slice Ax1_2 nx1_2 cx1_2] 29)
  have f0 : (w9.alloc (.cells #[.int .i64 xx1_0, .int .i64 xx1_1, .slice Ax1_2 nx1_2 cx1_2] 29)).cell? ⟨w7.heap.size, 0, none⟩ = some (.int .i64 xx0_0) := (S.at_ 2 rfl).cell 0
  have f1 : (w9.alloc (.cells #[.int .i64 xx1_0, .int .i64 xx1_1, .slice Ax1_2 nx1_2 cx1_2] 29)).cell? ⟨w7.heap.size, 1, none⟩ = some (.int .i64 xx0_1) := (S.at_ 2 rfl).cell 1
  have f2 : (w9.alloc (.cells #[.int .i64 xx1_0, .int .i64 xx1_1, .slice Ax1_2 nx1_2 cx1_2] 29)).cell? ⟨w7.heap.size, 2, none⟩ = some (.slice Ax0_2 nx0_2 cx0_2) := (S.at_ 2 rfl).cell 2
  go_wp2_with fail
  generalize w9.alloc (.cells #[.int .i64 xx1_0, .int .i64 xx1_1, .slice Ax1_2 nx1_2 cx1_2] 29) = w10 at *
  refine (IM.out _ _ _ _ _ d0 _ _ _ _ _ d1 _ ((S.own_ 3 rfl).rd) hz0 ((S.own_ 1 rfl).rd) hz1).mono ?_
  rintro e w11 ⟨rfl, b⟩
  replace c := c.trans (b.mono c.size)
  replace S := S.keep b
  clear b f0 f1 f2
  rw [← HFX0.out]
  have f0 : (w11).cell? ⟨w7.heap.size, 0, none⟩ = some (.int .i64 xx0_0) := (S.at_ 2 rfl).cell 0
  have f1 : (w11).cell? ⟨w7.heap.size, 1, none⟩ = some (.int .i64 xx0_1) := (S.at_ 2 rfl).cell 1
  have f2 : (w11).cell? ⟨w7.heap.size, 2, none⟩ = some (.slice Ax0_2 nx0_2 cx0_2) := (S.at_ 2 rfl).cell 2
  have f3 : (w11).cell? ⟨w.heap.size, 0, none⟩ = some (.int .i64 xa0_0) := (S.at_ 7 rfl).cell 0
  have f4 : (w11).cell? ⟨w.heap.size, 1, none⟩ = some (.int .i64 xa0_1) := (S.at_ 7 rfl).cell 1
  have f5 : (w11).cell? ⟨w.heap.size, 2, none⟩ = some (.slice Aa0_2 na0_2 ca0_2) := (S.at_ 7 rfl).cell 2
  have SH := Lib.hid S
  have CH := Lib.hid c
  clear S c
  go_wp2_with fail
  go_region_held3 (fun v => v.cell? ⟨w7.heap.size, 0, none⟩ = some (.int .i64 xx0_0) ∧ v.cell? ⟨w7.heap.size, 1, none⟩ = some (.int .i64 xx0_1) ∧ v.cell? ⟨w7.heap.size, 2, none⟩ = some (.slice Ax0_2 nx0_2 cx0_2) ∧ v.cell? ⟨w.heap.size, 0, none⟩ = some (.int .i64 xa0_0) ∧ v.cell? ⟨w.heap.size, 1, none⟩ = some (.int .i64 xa0_1) ∧ v.cell? ⟨w.heap.size, 2, none⟩ = some (.slice Aa0_2 na0_2 ca0_2)) (go_keep)
    (first
      | (go_at_call 15
         refine (toBook_made _ _ _ d0 _ ((h0.keep CH.out.drew).up CH.out.size) hz0).mono ?_
         rintro e w12 ⟨xz0_0, xz0_1, Az0_2, nz0_2, cz0_2, rfl, o, b⟩
         have S1 := (SH.out.keep ((Below.refl _ _).drew)).keep b
         have g0 : (w12).cell? ⟨w7.heap.size, 0, none⟩ = some (.int .i64 xx0_0) := (S1.at_ 2 rfl).cell 0
         have g1 : (w12).cell? ⟨w7.heap.size, 1, none⟩ = some (.int .i64 xx0_1) := (S1.at_ 2 rfl).cell 1
         have g2 : (w12).cell? ⟨w7.heap.size, 2, none⟩ = some (.slice Ax0_2 nx0_2 cx0_2) := (S1.at_ 2 rfl).cell 2
         have g3 : (w12).cell? ⟨w.heap.size, 0, none⟩ = some (.int .i64 xa0_0) := (S1.at_ 7 rfl).cell 0
         have g4 : (w12).cell? ⟨w.heap.size, 1, none⟩ = some (.int .i64 xa0_1) := (S1.at_ 7 rfl).cell 1
         have g5 : (w12).cell? ⟨w.heap.size, 2, none⟩ = some (.slice Aa0_2 na0_2 ca0_2) := (S1.at_ 7 rfl).cell 2
         have O1 := Lib.hid o
         have B1 := Lib.hid b
         clear S1 o b)
      | (go_at_call 17
         refine (eqBook_yes _ _ _ _ _ _ _ _ d0 _ ((((SH.out.keep ((Below.refl _ _).drew)).keep B1.out).own_ 3 rfl).rd) (O1.out.rd) (Nat.le_refl _) (Nat.le_refl _) (by omega)).mono ?_
         rintro e w13 ⟨rfl, b⟩
         have S3 := ((SH.out.keep ((Below.refl _ _).drew)).keep B1.out).keep b
         have r0 : (w13).cell? ⟨w7.heap.size, 0, none⟩ = some (.int .i64 xx0_0) := (S3.at_ 2 rfl).cell 0
         have r1 : (w13).cell? ⟨w7.heap.size, 1, none⟩ = some (.int .i64 xx0_1) := (S3.at_ 2 rfl).cell 1
         have r2 : (w13).cell? ⟨w7.heap.size, 2, none⟩ = some (.slice Ax0_2 nx0_2 cx0_2) := (S3.at_ 2 rfl).cell 2
         have r3 : (w13).cell? ⟨w.heap.size, 0, none⟩ = some (.int .i64 xa0_0) := (S3.at_ 7 rfl).cell 0
         have r4 : (w13).cell? ⟨w.heap.size, 1, none⟩ = some (.int .i64 xa0_1) := (S3.at_ 7 rfl).cell 1
         have r5 : (w13).cell? ⟨w.heap.size, 2, none⟩ = some (.slice Aa0_2 na0_2 ca0_2) := (S3.at_ 7 rfl).cell 2
         have S2 := Lib.hid S3
         have C2 := Lib.hid ((CH.out.drew.trans (B1.out.mono CH.out.size)).trans (b.mono (CH.out.drew.trans (B1.out.mono CH.out.size)).size))
         clear b S3))
  have S := S2.out
  have c := C2.out
  clear SH CH S2 C2 O1 B1 f0 g0 r0 f1 g1 r1 f2 g2 r2 f3 g3 r3 f4 g4 r4 f5 g5 r5
  have f0 : (w13).cell? ⟨w9.heap.size, 0, none⟩ = some (.int .i64 xx1_0) := (S.at_ 0 rfl).cell 0
  have f1 : (w13).cell? ⟨w9.heap.size, 1, none⟩ = some (.int .i64 xx1_1) := (S.at_ 0 rfl).cell 1
  have f2 : (w13).cell? ⟨w9.heap.size, 2, none⟩ = some (.slice Ax1_2 nx1_2 cx1_2) := (S.at_ 0 rfl).cell 2
  have f3 : (w13).cell? ⟨w.heap.size + 1, 0, none⟩ = some (.int .i64 xa1_0) := (S.at_ 6 rfl).cell 0
  have f4 : (w13).cell? ⟨w.heap.size + 1, 1, none⟩ = some (.int .i64 xa1_1) := (S.at_ 6 rfl).cell 1
  have f5 : (w13).cell? ⟨w.heap.size + 1, 2, none⟩ = some (.slice Aa1_2 na1_2 ca1_2) := (S.at_ 6 rfl).cell 2
  have SH := Lib.hid S
  have CH := Lib.hid c
  clear S c
  go_wp2_with fail
  go_region_held3 (fun v => v.cell? ⟨w9.heap.size, 0, none⟩ = some (.int .i64 xx1_0) ∧ v.cell? ⟨w9.heap.size, 1, none⟩ = some (.int .i64 xx1_1) ∧ v.cell? ⟨w9.heap.size, 2, none⟩ = some (.slice Ax1_2 nx1_2 cx1_2) ∧ v.cell? ⟨w.heap.size + 1, 0, none⟩ = some (.int .i64 xa1_0) ∧ v.cell? ⟨w.heap.size + 1, 1, none⟩ = some (.int .i64 xa1_1) ∧ v.cell? ⟨w.heap.size + 1, 2, none⟩ = some (.slice Aa1_2 na1_2 ca1_2)) (go_keep)
    (first
      | (go_at_call 15
         refine (toBook_made _ _ _ d1 _ ((h1.keep CH.out.drew).up CH.out.size) hz1).mono ?_
         rintro e w14 ⟨xz1_0, xz1_1, Az1_2, nz1_2, cz1_2, rfl, o, b⟩
         have S1 := (SH.out.keep ((Below.refl _ _).drew)).keep b
         have g0 : (w14).cell? ⟨w9.heap.size, 0, none⟩ = some (.int .i64 xx1_0) := (S1.at_ 0 rfl).cell 0
         have g1 : (w14).cell? ⟨w9.heap.size, 1, none⟩ = some (.int .i64 xx1_1) := (S1.at_ 0 rfl).cell 1
         have g2 : (w14).cell? ⟨w9.heap.size, 2, none⟩ = some (.slice Ax1_2 nx1_2 cx1_2) := (S1.at_ 0 rfl).cell 2
         have g3 : (w14).cell? ⟨w.heap.size + 1, 0, none⟩ = some (.int .i64 xa1_0) := (S1.at_ 6 rfl).cell 0
         have g4 : (w14).cell? ⟨w.heap.size + 1, 1, none⟩ = some (.int .i64 xa1_1) := (S1.at_ 6 rfl).cell 1
         have g5 : (w14).cell? ⟨w.heap.size + 1, 2, none⟩ = some (.slice Aa1_2 na1_2 ca1_2) := (S1.at_ 6 rfl).cell 2
         have O1 := Lib.hid o
         have B1 := Lib.hid b
         clear S1 o b)
      | (go_at_call 17
         refine (eqBook_yes _ _ _ _ _ _ _ _ d1 _ ((((SH.out.keep ((Below.refl _ _).drew)).keep B1.out).own_ 1 rfl).rd) (O1.out.rd) (Nat.le_refl _) (Nat.le_refl _) (by omega)).mono ?_
         rintro e w15 ⟨rfl, b⟩
         have S3 := ((SH.out.keep ((Below.refl _ _).drew)).keep B1.out).keep b
         have r0 : (w15).cell? ⟨w9.heap.size, 0, none⟩ = some (.int .i64 xx1_0) := (S3.at_ 0 rfl).cell 0
         have r1 : (w15).cell? ⟨w9.heap.size, 1, none⟩ = some (.int .i64 xx1_1) := (S3.at_ 0 rfl).cell 1
         have r2 : (w15).cell? ⟨w9.heap.size, 2, none⟩ = some (.slice Ax1_2 nx1_2 cx1_2) := (S3.at_ 0 rfl).cell 2
         have r3 : (w15).cell? ⟨w.heap.size + 1, 0, none⟩ = some (.int .i64 xa1_0) := (S3.at_ 6 rfl).cell 0
         have r4 : (w15).cell? ⟨w.heap.size + 1, 1, none⟩ = some (.int .i64 xa1_1) := (S3.at_ 6 rfl).cell 1
         have r5 : (w15).cell? ⟨w.heap.size + 1, 2, none⟩ = some (.slice Aa1_2 na1_2 ca1_2) := (S3.at_ 6 rfl).cell 2
         have S2 := Lib.hid S3
         have C2 := Lib.hid ((CH.out.drew.trans (B1.out.mono CH.out.size)).trans (b.mono (CH.out.drew.trans (B1.out.mono CH.out.size)).size))
         clear b S3))
  have S := S2.out
  have c := C2.out
  clear SH CH S2 C2 O1 B1 f0 g0 r0 f1 g1 r1 f2 g2 r2 f3 g3 r3 f4 g4 r4 f5 g5 r5
  go_wp2
  go_ret
  exact ⟨rfl, c⟩

end Go.Proofs.Ytnjfdnjakogpmaa

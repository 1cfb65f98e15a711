/-
  Exact laws, over open contracts: whatever program function meets the model's contract, the law answers true and writes nothing that was there. Made by program (wip/lawgen.py).
-/
import Derived.Test.YtnjfdnjakogpmaaBook
import Derived.Test.YtnjfdnjakogpmaaKA
import Derived.Deep.RegionHeld3
namespace Go.Proofs.Ytnjfdnjakogpmaa
set_option maxRecDepth 100000
open Go.RowKit

set_option maxHeartbeats 12800000 in
theorem lawBackTo (f : BookM → Int → (BookM) × Bool)
    (hf0 : ∀ (d0 : BookM) (x1 : Int), d0.sz ≤ 1048576 → ((f d0 x1).1).sz ≤ 1048577)
    (hs : ∀ (xa0_0 : Int) (xa0_1 : Int) (Aa0_2 : Option Addr) (na0_2 ca0_2 : Nat) (d0 : BookM) (x1 : Int) (w : World), Rd w w.heap.size (d0.cells) [.int .i64 xa0_0, .int .i64 xa0_1, .slice Aa0_2 na0_2 ca0_2] → d0.sz ≤ 1048576 → Calls Try.prog 38 #[.agg #[.int .i64 xa0_0, .int .i64 xa0_1, .slice Aa0_2 na0_2 ca0_2], .int .i64 x1] w (fun e w' => ∃ (xr0_0 : Int) (xr0_1 : Int) (Ar0_2 : Option Addr) (nr0_2 cr0_2 : Nat), e = .returned (.tuple #[.agg #[.int .i64 xr0_0, .int .i64 xr0_1, .slice Ar0_2 nr0_2 cr0_2], .bool (f d0 x1).2]) ∧ Has w' w.heap.size (((f d0 x1).1).cells) [.int .i64 xr0_0, .int .i64 xr0_1, .slice Ar0_2 nr0_2 cr0_2] ∧ Below w.heap.size w w'))
    (hi : ∀ (xa0_0 : Int) (xa0_1 : Int) (Aa0_2 : Option Addr) (na0_2 ca0_2 : Nat) (d0 : BookM) (x1 : Int) (w : World), Rd w w.heap.size (d0.cells) [.int .i64 xa0_0, .int .i64 xa0_1, .slice Aa0_2 na0_2 ca0_2] → d0.sz ≤ 1048576 → Calls Try.prog 39 #[.agg #[.int .i64 xa0_0, .int .i64 xa0_1, .slice Aa0_2 na0_2 ca0_2], .int .i64 x1] w (fun e w' => ∃ (xr0_0 : Int) (xr0_1 : Int) (Ar0_2 : Option Addr) (nr0_2 cr0_2 : Nat), e = .returned (.tuple #[.agg #[.int .i64 xr0_0, .int .i64 xr0_1, .slice Ar0_2 nr0_2 cr0_2], .bool (f d0 x1).2]) ∧ Has w' w.heap.size (((f d0 x1).1).cells) [.int .i64 xr0_0, .int .i64 xr0_1, .slice Ar0_2 nr0_2 cr0_2] ∧ Below w.heap.size w w'))
    (xa0_0 : Int) (xa0_1 : Int) (Aa0_2 : Option Addr) (na0_2 ca0_2 : Nat) (d0 : BookM) (x1 : Int) (w : World) (h0 : Rd w w.heap.size (d0.cells) [.int .i64 xa0_0, .int .i64 xa0_1, .slice Aa0_2 na0_2 ca0_2]) :
    Calls Try.prog 10 #[.agg #[.int .i64 xa0_0, .int .i64 xa0_1, .slice Aa0_2 na0_2 ca0_2], .int .i64 x1] w fun e w' => e = .returned (.bool true) ∧ Below w.heap.size w w' := by
  have SP := Lib.hid hs
  have IM := Lib.hid hi
  clear hs hi
  have S := Sep.nil w w.heap.size
  have c := Below.refl w.heap.size w
  replace S := S.box c.size #[.int .i64 xa0_0, .int .i64 xa0_1, .slice Aa0_2 na0_2 ca0_2] 24
  replace c := c.alloc c.size (.cells #[.int .i64 xa0_0, .int .i64 xa0_1, .slice Aa0_2 na0_2 ca0_2] 24)
  go_enter Try.func10, Try.ntmps10
  go_wp2_with fail
  generalize w.alloc (.cells #[.int .i64 xa0_0, .int .i64 xa0_1, .slice Aa0_2 na0_2 ca0_2] 24) = w1 at *
  refine (szBook_any _ _ _ d0 _ _ _ (h0.keep c) c.size (by omega) (by omega)).mono ?_
  rintro e w2 ⟨rfl, b⟩
  replace c := c.trans (b.mono c.size)
  replace S := S.keep b
  clear b
  by_cases hzi0 : ((d0.sz : Nat) : Int) ≤ 1048576
  case neg =>
    rw [left, if_neg hzi0]
    go_wp2
    go_ret
    exact ⟨rfl, c⟩
  rw [left, if_pos hzi0]
  have hz0 : d0.sz ≤ 1048576 := by omega
  have qz0 : ¬ ((1048576 : Int) - (d0.sz : Int) < 0) := by omega
  obtain ⟨fx0, hfx0⟩ : ∃ q, q = (f d0 x1).1 := ⟨_, rfl⟩
  have hfz0 := hf0 d0 x1 hz0
  rw [← hfx0] at hfz0
  have HFX0 := Lib.hid hfx0
  clear hfx0
  obtain ⟨fx1, hfx1⟩ : ∃ q, q = (f d0 x1).2 := ⟨_, rfl⟩
  have HFX1 := Lib.hid hfx1
  clear hfx1
  have f0 : (w2).cell? ⟨w.heap.size, 0, none⟩ = some (.int .i64 xa0_0) := (S.at_ 0 rfl).cell 0
  have f1 : (w2).cell? ⟨w.heap.size, 1, none⟩ = some (.int .i64 xa0_1) := (S.at_ 0 rfl).cell 1
  have f2 : (w2).cell? ⟨w.heap.size, 2, none⟩ = some (.slice Aa0_2 na0_2 ca0_2) := (S.at_ 0 rfl).cell 2
  go_wp2_with fail
  refine (toBook_made _ _ _ d0 _ ((h0.keep c).up c.size) hz0).mono ?_
  rintro e w3 ⟨xs0_0, xs0_1, As0_2, ns0_2, cs0_2, rfl, o, b⟩
  obtain ⟨fp_s0, S'⟩ := S.has b o c.size
  replace c := c.trans (b.mono c.size)
  clear S; have S := S'; clear S' o b f0 f1 f2
  go_wp2_with fail
  refine (SP.out _ _ _ _ _ d0 _ _ ((S.own_ 0 rfl).rd) hz0).mono ?_
  rintro e w4 ⟨xw0_0, xw0_1, Aw0_2, nw0_2, cw0_2, rfl, o, b⟩
  obtain ⟨fp_w0, S'⟩ := S.has b o c.size
  replace c := c.trans (b.mono c.size)
  clear S; have S := S'; clear S' o b
  rw [← HFX0.out] at S
  rw [← HFX1.out]
  replace S := S.box c.size #[.int .i64 xw0_0, .int .i64 xw0_1, .slice Aw0_2 nw0_2 cw0_2] 29
  replace c := c.alloc c.size (.cells #[.int .i64 xw0_0, .int .i64 xw0_1, .slice Aw0_2 nw0_2 cw0_2] 29)
  have f0 : (w4.alloc (.cells #[.int .i64 xw0_0, .int .i64 xw0_1, .slice Aw0_2 nw0_2 cw0_2] 29)).cell? ⟨w.heap.size, 0, none⟩ = some (.int .i64 xa0_0) := (S.at_ 3 rfl).cell 0
  have f1 : (w4.alloc (.cells #[.int .i64 xw0_0, .int .i64 xw0_1, .slice Aw0_2 nw0_2 cw0_2] 29)).cell? ⟨w.heap.size, 1, none⟩ = some (.int .i64 xa0_1) := (S.at_ 3 rfl).cell 1
  have f2 : (w4.alloc (.cells #[.int .i64 xw0_0, .int .i64 xw0_1, .slice Aw0_2 nw0_2 cw0_2] 29)).cell? ⟨w.heap.size, 2, none⟩ = some (.slice Aa0_2 na0_2 ca0_2) := (S.at_ 3 rfl).cell 2
  go_wp2_with fail
  generalize w4.alloc (.cells #[.int .i64 xw0_0, .int .i64 xw0_1, .slice Aw0_2 nw0_2 cw0_2] 29) = w5 at *
  refine (toBook_made _ _ _ d0 _ ((h0.keep c).up c.size) hz0).mono ?_
  rintro e w6 ⟨xx0_0, xx0_1, Ax0_2, nx0_2, cx0_2, rfl, o, b⟩
  obtain ⟨fp_x0, S'⟩ := S.has b o c.size
  replace c := c.trans (b.mono c.size)
  clear S; have S := S'; clear S' o b f0 f1 f2
  replace S := S.box c.size #[.int .i64 xx0_0, .int .i64 xx0_1, .slice Ax0_2 nx0_2 cx0_2] 29
  replace c := c.alloc c.size (.cells #[.int .i64 xx0_0, .int .i64 xx0_1, .slice Ax0_2 nx0_2 cx0_2] 29)
  go_wp2_with fail
  generalize w6.alloc (.cells #[.int .i64 xx0_0, .int .i64 xx0_1, .slice Ax0_2 nx0_2 cx0_2] 29) = w7 at *
  refine (IM.out _ _ _ _ _ d0 _ _ ((S.own_ 1 rfl).rd) hz0).mono ?_
  rintro e w8 ⟨xg0_0, xg0_1, Ag0_2, ng0_2, cg0_2, rfl, o, b⟩
  obtain ⟨fp_g0, S'⟩ := S.has b o c.size
  replace c := c.trans (b.mono c.size)
  clear S; have S := S'; clear S' o b
  rw [← HFX0.out] at S
  rw [← HFX1.out]
  replace S := S.box c.size #[.int .i64 xg0_0, .int .i64 xg0_1, .slice Ag0_2 ng0_2 cg0_2] 29
  replace c := c.alloc c.size (.cells #[.int .i64 xg0_0, .int .i64 xg0_1, .slice Ag0_2 ng0_2 cg0_2] 29)
  have f0 : (w8.alloc (.cells #[.int .i64 xg0_0, .int .i64 xg0_1, .slice Ag0_2 ng0_2 cg0_2] 29)).cell? ⟨w8.heap.size, 0, none⟩ = some (.int .i64 xg0_0) := (S.at_ 0 rfl).cell 0
  have f1 : (w8.alloc (.cells #[.int .i64 xg0_0, .int .i64 xg0_1, .slice Ag0_2 ng0_2 cg0_2] 29)).cell? ⟨w8.heap.size, 1, none⟩ = some (.int .i64 xg0_1) := (S.at_ 0 rfl).cell 1
  have f2 : (w8.alloc (.cells #[.int .i64 xg0_0, .int .i64 xg0_1, .slice Ag0_2 ng0_2 cg0_2] 29)).cell? ⟨w8.heap.size, 2, none⟩ = some (.slice Ag0_2 ng0_2 cg0_2) := (S.at_ 0 rfl).cell 2
  have f3 : (w8.alloc (.cells #[.int .i64 xg0_0, .int .i64 xg0_1, .slice Ag0_2 ng0_2 cg0_2] 29)).cell? ⟨w4.heap.size, 0, none⟩ = some (.int .i64 xw0_0) := (S.at_ 4 rfl).cell 0
  have f4 : (w8.alloc (.cells #[.int .i64 xg0_0, .int .i64 xg0_1, .slice Ag0_2 ng0_2 cg0_2] 29)).cell? ⟨w4.heap.size, 1, none⟩ = some (.int .i64 xw0_1) := (S.at_ 4 rfl).cell 1
  have f5 : (w8.alloc (.cells #[.int .i64 xg0_0, .int .i64 xg0_1, .slice Ag0_2 ng0_2 cg0_2] 29)).cell? ⟨w4.heap.size, 2, none⟩ = some (.slice Aw0_2 nw0_2 cw0_2) := (S.at_ 4 rfl).cell 2
  go_wp2_with fail
  generalize w8.alloc (.cells #[.int .i64 xg0_0, .int .i64 xg0_1, .slice Ag0_2 ng0_2 cg0_2] 29) = w9 at *
  refine (eqBook_yes _ _ _ _ _ _ _ _ fx0 _ ((S.own_ 1 rfl).rd) ((S.own_ 5 rfl).rd) (Nat.le_refl _) (Nat.le_refl _) hfz0).mono ?_
  rintro e w10 ⟨rfl, b⟩
  replace c := c.trans (b.mono c.size)
  replace S := S.keep b
  clear b f0 f1 f2 f3 f4 f5
  have f0 : (w10).cell? ⟨w6.heap.size, 0, none⟩ = some (.int .i64 xx0_0) := (S.at_ 2 rfl).cell 0
  have f1 : (w10).cell? ⟨w6.heap.size, 1, none⟩ = some (.int .i64 xx0_1) := (S.at_ 2 rfl).cell 1
  have f2 : (w10).cell? ⟨w6.heap.size, 2, none⟩ = some (.slice Ax0_2 nx0_2 cx0_2) := (S.at_ 2 rfl).cell 2
  have f3 : (w10).cell? ⟨w.heap.size, 0, none⟩ = some (.int .i64 xa0_0) := (S.at_ 7 rfl).cell 0
  have f4 : (w10).cell? ⟨w.heap.size, 1, none⟩ = some (.int .i64 xa0_1) := (S.at_ 7 rfl).cell 1
  have f5 : (w10).cell? ⟨w.heap.size, 2, none⟩ = some (.slice Aa0_2 na0_2 ca0_2) := (S.at_ 7 rfl).cell 2
  have SH := Lib.hid S
  have CH := Lib.hid c
  clear S c
  go_wp2_with fail
  go_region_held3 (fun v => v.cell? ⟨w6.heap.size, 0, none⟩ = some (.int .i64 xx0_0) ∧ v.cell? ⟨w6.heap.size, 1, none⟩ = some (.int .i64 xx0_1) ∧ v.cell? ⟨w6.heap.size, 2, none⟩ = some (.slice Ax0_2 nx0_2 cx0_2) ∧ v.cell? ⟨w.heap.size, 0, none⟩ = some (.int .i64 xa0_0) ∧ v.cell? ⟨w.heap.size, 1, none⟩ = some (.int .i64 xa0_1) ∧ v.cell? ⟨w.heap.size, 2, none⟩ = some (.slice Aa0_2 na0_2 ca0_2)) (go_keep)
    (first
      | (go_at_call 15
         refine (toBook_made _ _ _ d0 _ ((h0.keep CH.out.drew).up CH.out.size) hz0).mono ?_
         rintro e w11 ⟨xz0_0, xz0_1, Az0_2, nz0_2, cz0_2, rfl, o, b⟩
         have S1 := (SH.out.keep ((Below.refl _ _).drew)).keep b
         have g0 : (w11).cell? ⟨w6.heap.size, 0, none⟩ = some (.int .i64 xx0_0) := (S1.at_ 2 rfl).cell 0
         have g1 : (w11).cell? ⟨w6.heap.size, 1, none⟩ = some (.int .i64 xx0_1) := (S1.at_ 2 rfl).cell 1
         have g2 : (w11).cell? ⟨w6.heap.size, 2, none⟩ = some (.slice Ax0_2 nx0_2 cx0_2) := (S1.at_ 2 rfl).cell 2
         have g3 : (w11).cell? ⟨w.heap.size, 0, none⟩ = some (.int .i64 xa0_0) := (S1.at_ 7 rfl).cell 0
         have g4 : (w11).cell? ⟨w.heap.size, 1, none⟩ = some (.int .i64 xa0_1) := (S1.at_ 7 rfl).cell 1
         have g5 : (w11).cell? ⟨w.heap.size, 2, none⟩ = some (.slice Aa0_2 na0_2 ca0_2) := (S1.at_ 7 rfl).cell 2
         have O1 := Lib.hid o
         have B1 := Lib.hid b
         clear S1 o b)
      | (go_at_call 17
         refine (eqBook_yes _ _ _ _ _ _ _ _ d0 _ ((((SH.out.keep ((Below.refl _ _).drew)).keep B1.out).own_ 3 rfl).rd) (O1.out.rd) (Nat.le_refl _) (Nat.le_refl _) (by omega)).mono ?_
         rintro e w12 ⟨rfl, b⟩
         have S3 := ((SH.out.keep ((Below.refl _ _).drew)).keep B1.out).keep b
         have r0 : (w12).cell? ⟨w6.heap.size, 0, none⟩ = some (.int .i64 xx0_0) := (S3.at_ 2 rfl).cell 0
         have r1 : (w12).cell? ⟨w6.heap.size, 1, none⟩ = some (.int .i64 xx0_1) := (S3.at_ 2 rfl).cell 1
         have r2 : (w12).cell? ⟨w6.heap.size, 2, none⟩ = some (.slice Ax0_2 nx0_2 cx0_2) := (S3.at_ 2 rfl).cell 2
         have r3 : (w12).cell? ⟨w.heap.size, 0, none⟩ = some (.int .i64 xa0_0) := (S3.at_ 7 rfl).cell 0
         have r4 : (w12).cell? ⟨w.heap.size, 1, none⟩ = some (.int .i64 xa0_1) := (S3.at_ 7 rfl).cell 1
         have r5 : (w12).cell? ⟨w.heap.size, 2, none⟩ = some (.slice Aa0_2 na0_2 ca0_2) := (S3.at_ 7 rfl).cell 2
         have S2 := Lib.hid S3
         have C2 := Lib.hid ((CH.out.drew.trans (B1.out.mono CH.out.size)).trans (b.mono (CH.out.drew.trans (B1.out.mono CH.out.size)).size))
         clear b S3))
  have S := S2.out
  have c := C2.out
  clear SH CH S2 C2 O1 B1 f0 g0 r0 f1 g1 r1 f2 g2 r2 f3 g3 r3 f4 g4 r4 f5 g5 r5
  have f0 : (w12).cell? ⟨w6.heap.size, 0, none⟩ = some (.int .i64 xx0_0) := (S.at_ 2 rfl).cell 0
  have f1 : (w12).cell? ⟨w6.heap.size, 1, none⟩ = some (.int .i64 xx0_1) := (S.at_ 2 rfl).cell 1
  have f2 : (w12).cell? ⟨w6.heap.size, 2, none⟩ = some (.slice Ax0_2 nx0_2 cx0_2) := (S.at_ 2 rfl).cell 2
  go_wp2_with fail
  refine (markBook_any _ _ _ d0 _ _ (S.own_ 3 rfl) (S.nodup_own 3 rfl) (by omega) (1) (by omega) (by omega)).mono ?_
  rintro e w13 ⟨m0, rfl, o, t, mk_x0, en_x0, es_x0⟩
  have b := S.below 3 rfl t c.size
  have S' := S.mark 3 rfl t o
  replace c := c.trans b
  clear S; have S := S'; clear S' o t b f0 f1 f2
  have nb0 : d0.n ≤ 9437193 := by
    first | omega | exact book_n_le _ (by omega)
  have qk : ¬ (1 + (d0.n : Int) < 0) := by omega
  have f0 : (w13).cell? ⟨w8.heap.size, 0, none⟩ = some (.int .i64 xg0_0) := (S.at_ 0 rfl).cell 0
  have f1 : (w13).cell? ⟨w8.heap.size, 1, none⟩ = some (.int .i64 xg0_1) := (S.at_ 0 rfl).cell 1
  have f2 : (w13).cell? ⟨w8.heap.size, 2, none⟩ = some (.slice Ag0_2 ng0_2 cg0_2) := (S.at_ 0 rfl).cell 2
  have f3 : (w13).cell? ⟨w4.heap.size, 0, none⟩ = some (.int .i64 xw0_0) := (S.at_ 4 rfl).cell 0
  have f4 : (w13).cell? ⟨w4.heap.size, 1, none⟩ = some (.int .i64 xw0_1) := (S.at_ 4 rfl).cell 1
  have f5 : (w13).cell? ⟨w4.heap.size, 2, none⟩ = some (.slice Aw0_2 nw0_2 cw0_2) := (S.at_ 4 rfl).cell 2
  go_wp2_with fail
  refine (eqBook_yes _ _ _ _ _ _ _ _ fx0 _ ((S.own_ 1 rfl).rd) ((S.own_ 5 rfl).rd) (Nat.le_refl _) (Nat.le_refl _) hfz0).mono ?_
  rintro e w14 ⟨rfl, b⟩
  replace c := c.trans (b.mono c.size)
  replace S := S.keep b
  clear b f0 f1 f2 f3 f4 f5
  have nr0 : fx0.n ≤ 9437193 := by
    first | omega | exact book_n_le _ (by omega)
  have f0 : (w14).cell? ⟨w8.heap.size, 0, none⟩ = some (.int .i64 xg0_0) := (S.at_ 0 rfl).cell 0
  have f1 : (w14).cell? ⟨w8.heap.size, 1, none⟩ = some (.int .i64 xg0_1) := (S.at_ 0 rfl).cell 1
  have f2 : (w14).cell? ⟨w8.heap.size, 2, none⟩ = some (.slice Ag0_2 ng0_2 cg0_2) := (S.at_ 0 rfl).cell 2
  go_wp2_with fail
  refine (markBook_any _ _ _ fx0 _ _ (S.own_ 1 rfl) (S.nodup_own 1 rfl) hfz0 (1) (by omega) (by omega)).mono ?_
  rintro e w15 ⟨e0, rfl, o, t, mk_g0, en_g0, es_g0⟩
  have b := S.below 1 rfl t c.size
  have S' := S.mark 1 rfl t o
  replace c := c.trans b
  clear S; have S := S'; clear S' o t b f0 f1 f2
  have f0 : (w15).cell? ⟨w8.heap.size, 0, none⟩ = some (.int .i64 xg0_0) := (S.at_ 0 rfl).cell 0
  have f1 : (w15).cell? ⟨w8.heap.size, 1, none⟩ = some (.int .i64 xg0_1) := (S.at_ 0 rfl).cell 1
  have f2 : (w15).cell? ⟨w8.heap.size, 2, none⟩ = some (.slice Ag0_2 ng0_2 cg0_2) := (S.at_ 0 rfl).cell 2
  go_wp2_with fail
  refine (heldBook_any _ _ _ e0 _ _ ((S.own_ 1 rfl).rd) (Nat.le_refl _) (by omega) (1) (by omega) (by omega) mk_g0).mono ?_
  rintro e w16 ⟨rfl, b⟩
  rw [en_g0]
  have q16 : ¬ (1 + (fx0.n : Int) < 0) := by omega
  replace c := c.trans (b.mono c.size)
  replace S := S.keep b
  clear b f0 f1 f2
  have f0 : (w16).cell? ⟨w.heap.size, 0, none⟩ = some (.int .i64 xa0_0) := (S.at_ 7 rfl).cell 0
  have f1 : (w16).cell? ⟨w.heap.size, 1, none⟩ = some (.int .i64 xa0_1) := (S.at_ 7 rfl).cell 1
  have f2 : (w16).cell? ⟨w.heap.size, 2, none⟩ = some (.slice Aa0_2 na0_2 ca0_2) := (S.at_ 7 rfl).cell 2
  go_wp2_with fail
  refine (toBook_made _ _ _ d0 _ ((h0.keep c).up c.size) hz0).mono ?_
  rintro e w17 ⟨xt0_0, xt0_1, At0_2, nt0_2, ct0_2, rfl, o, b⟩
  obtain ⟨fp_t0, S'⟩ := S.has b o c.size
  replace c := c.trans (b.mono c.size)
  clear S; have S := S'; clear S' o b f0 f1 f2
  go_wp2_with fail
  refine (IM.out _ _ _ _ _ d0 _ _ ((S.own_ 0 rfl).rd) hz0).mono ?_
  rintro e w18 ⟨xh0_0, xh0_1, Ah0_2, nh0_2, ch0_2, rfl, o, b⟩
  obtain ⟨fp_h0, S'⟩ := S.has b o c.size
  replace c := c.trans (b.mono c.size)
  clear S; have S := S'; clear S' o b
  rw [← HFX0.out] at S
  rw [← HFX1.out]
  replace S := S.box c.size #[.int .i64 xh0_0, .int .i64 xh0_1, .slice Ah0_2 nh0_2 ch0_2] 29
  replace c := c.alloc c.size (.cells #[.int .i64 xh0_0, .int .i64 xh0_1, .slice Ah0_2 nh0_2 ch0_2] 29)
  have f0 : (w18.alloc (.cells #[.int .i64 xh0_0, .int .i64 xh0_1, .slice Ah0_2 nh0_2 ch0_2] 29)).cell? ⟨w18.heap.size, 0, none⟩ = some (.int .i64 xh0_0) := (S.at_ 0 rfl).cell 0
  have f1 : (w18.alloc (.cells #[.int .i64 xh0_0, .int .i64 xh0_1, .slice Ah0_2 nh0_2 ch0_2] 29)).cell? ⟨w18.heap.size, 1, none⟩ = some (.int .i64 xh0_1) := (S.at_ 0 rfl).cell 1
  have f2 : (w18.alloc (.cells #[.int .i64 xh0_0, .int .i64 xh0_1, .slice Ah0_2 nh0_2 ch0_2] 29)).cell? ⟨w18.heap.size, 2, none⟩ = some (.slice Ah0_2 nh0_2 ch0_2) := (S.at_ 0 rfl).cell 2
  have f3 : (w18.alloc (.cells #[.int .i64 xh0_0, .int .i64 xh0_1, .slice Ah0_2 nh0_2 ch0_2] 29)).cell? ⟨w4.heap.size, 0, none⟩ = some (.int .i64 xw0_0) := (S.at_ 7 rfl).cell 0
  have f4 : (w18.alloc (.cells #[.int .i64 xh0_0, .int .i64 xh0_1, .slice Ah0_2 nh0_2 ch0_2] 29)).cell? ⟨w4.heap.size, 1, none⟩ = some (.int .i64 xw0_1) := (S.at_ 7 rfl).cell 1
  have f5 : (w18.alloc (.cells #[.int .i64 xh0_0, .int .i64 xh0_1, .slice Ah0_2 nh0_2 ch0_2] 29)).cell? ⟨w4.heap.size, 2, none⟩ = some (.slice Aw0_2 nw0_2 cw0_2) := (S.at_ 7 rfl).cell 2
  go_wp2_with fail
  generalize w18.alloc (.cells #[.int .i64 xh0_0, .int .i64 xh0_1, .slice Ah0_2 nh0_2 ch0_2] 29) = w19 at *
  refine (eqBook_yes _ _ _ _ _ _ _ _ fx0 _ ((S.own_ 1 rfl).rd) ((S.own_ 8 rfl).rd) (Nat.le_refl _) (Nat.le_refl _) hfz0).mono ?_
  rintro e w20 ⟨rfl, b⟩
  replace c := c.trans (b.mono c.size)
  replace S := S.keep b
  clear b f0 f1 f2 f3 f4 f5
  have f0 : (w20).cell? ⟨w8.heap.size, 0, none⟩ = some (.int .i64 xg0_0) := (S.at_ 3 rfl).cell 0
  have f1 : (w20).cell? ⟨w8.heap.size, 1, none⟩ = some (.int .i64 xg0_1) := (S.at_ 3 rfl).cell 1
  have f2 : (w20).cell? ⟨w8.heap.size, 2, none⟩ = some (.slice Ag0_2 ng0_2 cg0_2) := (S.at_ 3 rfl).cell 2
  go_wp2_with fail
  refine (heldBook_any _ _ _ e0 _ _ ((S.own_ 4 rfl).rd) (Nat.le_refl _) (by omega) (1) (by omega) (by omega) mk_g0).mono ?_
  rintro e w21 ⟨rfl, b⟩
  rw [en_g0]
  have q21 : ¬ (1 + (fx0.n : Int) < 0) := by omega
  replace c := c.trans (b.mono c.size)
  replace S := S.keep b
  clear b f0 f1 f2
  go_wp2
  go_ret
  exact ⟨rfl, c⟩

end Go.Proofs.Ytnjfdnjakogpmaa

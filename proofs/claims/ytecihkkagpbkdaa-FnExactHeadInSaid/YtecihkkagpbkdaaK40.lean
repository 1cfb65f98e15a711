/- Parts of my texts: LawHeadIn OpenG OpenR OpenMark OpenHead OpenEnt. -/
import Derived.Test.YtecihkkagpbkdaaK4
import Derived.Test.YtecihkkagpbkdaaK6
import Derived.ChangeArms
import Derived.ProofKit
namespace Go.Proofs.Ytecihkkagpbkdaa
set_option maxRecDepth 100000
set_option linter.unusedVariables false
open Go.RowKit
set_option maxHeartbeats 12800000 in
theorem lawHeadIn (f : TwoM → (HeadM) × Bool)
    (hf0 : ∀ (d0 : TwoM), d0.sz ≤ 1048576 → ((f d0).1).sz ≤ 1048577)
    (hs : ∀ (Aa0_0 : Option Addr) (na0_0 ca0_0 : Nat) (Aa0_1 : Option Addr) (na0_1 ca0_1 : Nat) (Aa0_2 : Option Addr) (na0_2 ca0_2 : Nat) (Aa0_3 : Option Addr) (na0_3 ca0_3 : Nat) (d0 : TwoM) (w : World), Rd w w.heap.size (d0.cells) [.slice Aa0_0 na0_0 ca0_0, .slice Aa0_1 na0_1 ca0_1, .slice Aa0_2 na0_2 ca0_2, .slice Aa0_3 na0_3 ca0_3] → d0.sz ≤ 1048576 → Calls Try.prog 26 #[.agg #[.slice Aa0_0 na0_0 ca0_0, .slice Aa0_1 na0_1 ca0_1, .slice Aa0_2 na0_2 ca0_2, .slice Aa0_3 na0_3 ca0_3]] w (fun e w' => ∃ (xr0_0 : Int) (xr0_1 : Int) (xr0_2 : Int) (Ar0_3 : Option Addr) (nr0_3 cr0_3 : Nat), e = .returned (.tuple #[.agg #[.int .i64 xr0_0, .int .i64 xr0_1, .int .i64 xr0_2, .slice Ar0_3 nr0_3 cr0_3], .bool (f d0).2]) ∧ Has w' w.heap.size (((f d0).1).cells) [.int .i64 xr0_0, .int .i64 xr0_1, .int .i64 xr0_2, .slice Ar0_3 nr0_3 cr0_3] ∧ Below w.heap.size w w'))
    (hi : ∀ (Aa0_0 : Option Addr) (na0_0 ca0_0 : Nat) (Aa0_1 : Option Addr) (na0_1 ca0_1 : Nat) (Aa0_2 : Option Addr) (na0_2 ca0_2 : Nat) (Aa0_3 : Option Addr) (na0_3 ca0_3 : Nat) (d0 : TwoM) (w : World), Rd w w.heap.size (d0.cells) [.slice Aa0_0 na0_0 ca0_0, .slice Aa0_1 na0_1 ca0_1, .slice Aa0_2 na0_2 ca0_2, .slice Aa0_3 na0_3 ca0_3] → d0.sz ≤ 1048576 → Calls Try.prog 27 #[.agg #[.slice Aa0_0 na0_0 ca0_0, .slice Aa0_1 na0_1 ca0_1, .slice Aa0_2 na0_2 ca0_2, .slice Aa0_3 na0_3 ca0_3]] w (fun e w' => ∃ (xr0_0 : Int) (xr0_1 : Int) (xr0_2 : Int) (Ar0_3 : Option Addr) (nr0_3 cr0_3 : Nat), e = .returned (.tuple #[.agg #[.int .i64 xr0_0, .int .i64 xr0_1, .int .i64 xr0_2, .slice Ar0_3 nr0_3 cr0_3], .bool (f d0).2]) ∧ Has w' w.heap.size (((f d0).1).cells) [.int .i64 xr0_0, .int .i64 xr0_1, .int .i64 xr0_2, .slice Ar0_3 nr0_3 cr0_3] ∧ Below w.heap.size w w'))
    (Aa0_0 : Option Addr) (na0_0 ca0_0 : Nat) (Aa0_1 : Option Addr) (na0_1 ca0_1 : Nat) (Aa0_2 : Option Addr) (na0_2 ca0_2 : Nat) (Aa0_3 : Option Addr) (na0_3 ca0_3 : Nat) (d0 : TwoM) (w : World) (h0 : Rd w w.heap.size (d0.cells) [.slice Aa0_0 na0_0 ca0_0, .slice Aa0_1 na0_1 ca0_1, .slice Aa0_2 na0_2 ca0_2, .slice Aa0_3 na0_3 ca0_3]) :
    Calls Try.prog 7 #[.agg #[.slice Aa0_0 na0_0 ca0_0, .slice Aa0_1 na0_1 ca0_1, .slice Aa0_2 na0_2 ca0_2, .slice Aa0_3 na0_3 ca0_3]] w fun e w' => e = .returned (.bool true) ∧ Below w.heap.size w w' := by
 have SP := jd hs
 have IM := jd hi
 clear hs hi
 have S := Sep.nil w w.heap.size
 have c := Below.refl w.heap.size w
 replace S := S.box c.size #[.slice Aa0_0 na0_0 ca0_0, .slice Aa0_1 na0_1 ca0_1, .slice Aa0_2 na0_2 ca0_2, .slice Aa0_3 na0_3 ca0_3] 27
 replace c := al c S
 go_enter Try.func7, Try.ntmps7
 go_wp2_with fail
 generalize w.alloc (.cells #[.slice Aa0_0 na0_0 ca0_0, .slice Aa0_1 na0_1 ca0_1, .slice Aa0_2 na0_2 ca0_2, .slice Aa0_3 na0_3 ca0_3] 27) = w1 at *
 refine (szTwo_any _ _ _ _ d0 _ _ _ (h0.keep c) c.size (by omega) (by omega)).mono ?_
 rintro e w2 ⟨rfl, b⟩
 replace c := c.trans (b.mono c.size)
 replace S := S.keep b
 clear b
 by_cases hzi0 : ((d0.sz : Nat) : Int) ≤ 1048576
 case neg =>
  rw [left, if_neg hzi0]
  go_wp2
  go_ret
  exact ⟨rfl, c⟩
 rw [left, if_pos hzi0]
 have hz0 : d0.sz ≤ 1048576 := by omega
 have qz0 : ¬ ((1048576 : Int) - (d0.sz : Int) < 0) := by omega
 obtain ⟨fx0, hfx0⟩ : ∃ q, q = (f d0).1 := ⟨_, rfl⟩
 have hfz0 := hf0 d0 hz0
 rw [← hfx0] at hfz0
 have HFX0 := jd hfx0
 clear hfx0
 obtain ⟨fx1, hfx1⟩ : ∃ q, q = (f d0).2 := ⟨_, rfl⟩
 have HFX1 := jd hfx1
 clear hfx1
 have f0 := lk S 0 0 rfl rfl
 have f1 := lk S 0 1 rfl rfl
 have f2 := lk S 0 2 rfl rfl
 have f3 := lk S 0 3 rfl rfl
 go_wp2_with fail
 refine (toTwo_made _ _ _ _ d0 _ ((h0.keep c).up c.size) hz0).mono ?_
 rintro e w3 ⟨As0_0, ns0_0, cs0_0, As0_1, ns0_1, cs0_1, As0_2, ns0_2, cs0_2, As0_3, ns0_3, cs0_3, rfl, o, b⟩
 obtain ⟨fp_s0, S'⟩ := S.has b o c.size
 replace c := c.trans (b.mono c.size)
 clear S; have S := S'; clear S' o b f0 f1 f2 f3
 go_wp2_with fail
 refine (SP.out _ _ _ _ _ _ _ _ _ _ _ _ d0 _ ((S.own_ 0 rfl).rd) hz0).mono ?_
 rintro e w4 ⟨xw0_0, xw0_1, xw0_2, Aw0_3, nw0_3, cw0_3, rfl, o, b⟩
 obtain ⟨fp_w0, S'⟩ := S.has b o c.size
 replace c := c.trans (b.mono c.size)
 clear S; have S := S'; clear S' o b
 rw [← HFX0.out] at S
 rw [← HFX1.out]
 replace S := S.box c.size #[.int .i64 xw0_0, .int .i64 xw0_1, .int .i64 xw0_2, .slice Aw0_3 nw0_3 cw0_3] 59
 replace c := al c S
 have f0 := lk S 3 0 rfl rfl
 have f1 := lk S 3 1 rfl rfl
 have f2 := lk S 3 2 rfl rfl
 have f3 := lk S 3 3 rfl rfl
 go_wp2_with fail
 generalize w4.alloc (.cells #[.int .i64 xw0_0, .int .i64 xw0_1, .int .i64 xw0_2, .slice Aw0_3 nw0_3 cw0_3] 59) = w5 at *
 refine (toTwo_made _ _ _ _ d0 _ ((h0.keep c).up c.size) hz0).mono ?_
 rintro e w6 ⟨Ax0_0, nx0_0, cx0_0, Ax0_1, nx0_1, cx0_1, Ax0_2, nx0_2, cx0_2, Ax0_3, nx0_3, cx0_3, rfl, o, b⟩
 obtain ⟨fp_x0, S'⟩ := S.has b o c.size
 replace c := c.trans (b.mono c.size)
 clear S; have S := S'; clear S' o b f0 f1 f2 f3
 replace S := S.box c.size #[.slice Ax0_0 nx0_0 cx0_0, .slice Ax0_1 nx0_1 cx0_1, .slice Ax0_2 nx0_2 cx0_2, .slice Ax0_3 nx0_3 cx0_3] 34
 replace c := al c S
 go_wp2_with fail
 generalize w6.alloc (.cells #[.slice Ax0_0 nx0_0 cx0_0, .slice Ax0_1 nx0_1 cx0_1, .slice Ax0_2 nx0_2 cx0_2, .slice Ax0_3 nx0_3 cx0_3] 34) = w7 at *
 refine (IM.out _ _ _ _ _ _ _ _ _ _ _ _ d0 _ ((S.own_ 1 rfl).rd) hz0).mono ?_
 rintro e w8 ⟨xg0_0, xg0_1, xg0_2, Ag0_3, ng0_3, cg0_3, rfl, o, b⟩
 obtain ⟨fp_g0, S'⟩ := S.has b o c.size
 replace c := c.trans (b.mono c.size)
 clear S; have S := S'; clear S' o b
 rw [← HFX0.out] at S
 rw [← HFX1.out]
 replace S := S.box c.size #[.int .i64 xg0_0, .int .i64 xg0_1, .int .i64 xg0_2, .slice Ag0_3 ng0_3 cg0_3] 59
 replace c := al c S
 have f0 := lk S 0 0 rfl rfl
 have f1 := lk S 0 1 rfl rfl
 have f2 := lk S 0 2 rfl rfl
 have f3 := lk S 0 3 rfl rfl
 have f4 := lk S 4 0 rfl rfl
 have f5 := lk S 4 1 rfl rfl
 have f6 := lk S 4 2 rfl rfl
 have f7 := lk S 4 3 rfl rfl
 go_wp2_with fail
 generalize w8.alloc (.cells #[.int .i64 xg0_0, .int .i64 xg0_1, .int .i64 xg0_2, .slice Ag0_3 ng0_3 cg0_3] 59) = w9 at *
 refine (eqHead_yes _ _ _ _ _ _ _ _ _ _ fx0 _ ((S.own_ 1 rfl).rd) ((S.own_ 5 rfl).rd) (Nat.le_refl _) (Nat.le_refl _) hfz0).mono ?_
 rintro e w10 ⟨rfl, b⟩
 replace c := c.trans (b.mono c.size)
 replace S := S.keep b
 clear b f0 f1 f2 f3 f4 f5 f6 f7
 have f0 := lk S 2 0 rfl rfl
 have f1 := lk S 2 1 rfl rfl
 have f2 := lk S 2 2 rfl rfl
 have f3 := lk S 2 3 rfl rfl
 have f4 := lk S 7 0 rfl rfl
 have f5 := lk S 7 1 rfl rfl
 have f6 := lk S 7 2 rfl rfl
 have f7 := lk S 7 3 rfl rfl
 have SH := jd S
 have CH := jd c
 clear S c
 go_wp2_with fail
 go_region_held3 (fun v => v.cell? ⟨w6.heap.size, 0, none⟩ = some (.slice Ax0_0 nx0_0 cx0_0) ∧ v.cell? ⟨w6.heap.size, 1, none⟩ = some (.slice Ax0_1 nx0_1 cx0_1) ∧ v.cell? ⟨w6.heap.size, 2, none⟩ = some (.slice Ax0_2 nx0_2 cx0_2) ∧ v.cell? ⟨w6.heap.size, 3, none⟩ = some (.slice Ax0_3 nx0_3 cx0_3) ∧ v.cell? ⟨w.heap.size, 0, none⟩ = some (.slice Aa0_0 na0_0 ca0_0) ∧ v.cell? ⟨w.heap.size, 1, none⟩ = some (.slice Aa0_1 na0_1 ca0_1) ∧ v.cell? ⟨w.heap.size, 2, none⟩ = some (.slice Aa0_2 na0_2 ca0_2) ∧ v.cell? ⟨w.heap.size, 3, none⟩ = some (.slice Aa0_3 na0_3 ca0_3)) (go_keep)
  (first
   | (go_at_call 10
      refine (toTwo_made _ _ _ _ d0 _ ((h0.keep CH.out.drew).up CH.out.size) hz0).mono ?_
      rintro e w11 ⟨Az0_0, nz0_0, cz0_0, Az0_1, nz0_1, cz0_1, Az0_2, nz0_2, cz0_2, Az0_3, nz0_3, cz0_3, rfl, o, b⟩
      have S1 := (SH.out.keep ((Below.refl _ _).drew)).keep b
      have g0 : (w11).cell? ⟨w6.heap.size, 0, none⟩ = some (.slice Ax0_0 nx0_0 cx0_0) := (S1.at_ 2 rfl).cell 0
      have g1 : (w11).cell? ⟨w6.heap.size, 1, none⟩ = some (.slice Ax0_1 nx0_1 cx0_1) := (S1.at_ 2 rfl).cell 1
      have g2 : (w11).cell? ⟨w6.heap.size, 2, none⟩ = some (.slice Ax0_2 nx0_2 cx0_2) := (S1.at_ 2 rfl).cell 2
      have g3 : (w11).cell? ⟨w6.heap.size, 3, none⟩ = some (.slice Ax0_3 nx0_3 cx0_3) := (S1.at_ 2 rfl).cell 3
      have g4 : (w11).cell? ⟨w.heap.size, 0, none⟩ = some (.slice Aa0_0 na0_0 ca0_0) := (S1.at_ 7 rfl).cell 0
      have g5 : (w11).cell? ⟨w.heap.size, 1, none⟩ = some (.slice Aa0_1 na0_1 ca0_1) := (S1.at_ 7 rfl).cell 1
      have g6 : (w11).cell? ⟨w.heap.size, 2, none⟩ = some (.slice Aa0_2 na0_2 ca0_2) := (S1.at_ 7 rfl).cell 2
      have g7 : (w11).cell? ⟨w.heap.size, 3, none⟩ = some (.slice Aa0_3 na0_3 ca0_3) := (S1.at_ 7 rfl).cell 3
      have O1 := jd o
      have B1 := jd b
      clear S1 o b)
   | (go_at_call 12
      refine (eqTwo_yes _ _ _ _ _ _ _ _ _ _ d0 _ ((((SH.out.keep ((Below.refl _ _).drew)).keep B1.out).own_ 3 rfl).rd) (O1.out.rd) (Nat.le_refl _) (Nat.le_refl _) (by omega)).mono ?_
      rintro e w12 ⟨rfl, b⟩
      have S3 := ((SH.out.keep ((Below.refl _ _).drew)).keep B1.out).keep b
      have r0 : (w12).cell? ⟨w6.heap.size, 0, none⟩ = some (.slice Ax0_0 nx0_0 cx0_0) := (S3.at_ 2 rfl).cell 0
      have r1 : (w12).cell? ⟨w6.heap.size, 1, none⟩ = some (.slice Ax0_1 nx0_1 cx0_1) := (S3.at_ 2 rfl).cell 1
      have r2 : (w12).cell? ⟨w6.heap.size, 2, none⟩ = some (.slice Ax0_2 nx0_2 cx0_2) := (S3.at_ 2 rfl).cell 2
      have r3 : (w12).cell? ⟨w6.heap.size, 3, none⟩ = some (.slice Ax0_3 nx0_3 cx0_3) := (S3.at_ 2 rfl).cell 3
      have r4 : (w12).cell? ⟨w.heap.size, 0, none⟩ = some (.slice Aa0_0 na0_0 ca0_0) := (S3.at_ 7 rfl).cell 0
      have r5 : (w12).cell? ⟨w.heap.size, 1, none⟩ = some (.slice Aa0_1 na0_1 ca0_1) := (S3.at_ 7 rfl).cell 1
      have r6 : (w12).cell? ⟨w.heap.size, 2, none⟩ = some (.slice Aa0_2 na0_2 ca0_2) := (S3.at_ 7 rfl).cell 2
      have r7 : (w12).cell? ⟨w.heap.size, 3, none⟩ = some (.slice Aa0_3 na0_3 ca0_3) := (S3.at_ 7 rfl).cell 3
      have S2 := jd S3
      have C2 := jd ((CH.out.drew.trans (B1.out.mono CH.out.size)).trans (b.mono (CH.out.drew.trans (B1.out.mono CH.out.size)).size))
      clear b S3))
 have S := S2.out
 have c := C2.out
 clear SH CH S2 C2 O1 B1 f0 g0 r0 f1 g1 r1 f2 g2 r2 f3 g3 r3 f4 g4 r4 f5 g5 r5 f6 g6 r6 f7 g7 r7
 have f0 := lk S 2 0 rfl rfl
 have f1 := lk S 2 1 rfl rfl
 have f2 := lk S 2 2 rfl rfl
 have f3 := lk S 2 3 rfl rfl
 go_wp2_with fail
 refine (markTwo_any _ _ _ _ d0 _ _ (S.own_ 3 rfl) (S.nodup_own 3 rfl) (by omega) (1) (by omega) (by omega)).mono ?_
 rintro e w13 ⟨m0, rfl, o, t, mk_x0, en_x0, es_x0⟩
 have b := S.below 3 rfl t c.size
 have S' := S.mark 3 rfl t o
 replace c := c.trans b
 clear S; have S := S'; clear S' o t b f0 f1 f2 f3
 have nb0 : d0.n ≤ 2097154 := by
  first | omega | exact two_n_le _ (by omega)
 have qk : ¬ (1 + (d0.n : Int) < 0) := by omega
 have f0 := lk S 0 0 rfl rfl
 have f1 := lk S 0 1 rfl rfl
 have f2 := lk S 0 2 rfl rfl
 have f3 := lk S 0 3 rfl rfl
 have f4 := lk S 4 0 rfl rfl
 have f5 := lk S 4 1 rfl rfl
 have f6 := lk S 4 2 rfl rfl
 have f7 := lk S 4 3 rfl rfl
 go_wp2_with fail
 refine (eqHead_yes _ _ _ _ _ _ _ _ _ _ fx0 _ ((S.own_ 1 rfl).rd) ((S.own_ 5 rfl).rd) (Nat.le_refl _) (Nat.le_refl _) hfz0).mono ?_
 rintro e w14 ⟨rfl, b⟩
 replace c := c.trans (b.mono c.size)
 replace S := S.keep b
 clear b f0 f1 f2 f3 f4 f5 f6 f7
 have nr0 : fx0.n ≤ 9437193 := by
  first | omega | exact head_n_le _ (by omega)
 have f0 := lk S 0 0 rfl rfl
 have f1 := lk S 0 1 rfl rfl
 have f2 := lk S 0 2 rfl rfl
 have f3 := lk S 0 3 rfl rfl
 go_wp2_with fail
 refine (markHead_any _ _ _ _ fx0 _ _ (S.own_ 1 rfl) (S.nodup_own 1 rfl) hfz0 (1) (by omega) (by omega)).mono ?_
 rintro e w15 ⟨e0, rfl, o, t, mk_g0, en_g0, es_g0⟩
 have b := S.below 1 rfl t c.size
 have S' := S.mark 1 rfl t o
 replace c := c.trans b
 clear S; have S := S'; clear S' o t b f0 f1 f2 f3
 have f0 := lk S 0 0 rfl rfl
 have f1 := lk S 0 1 rfl rfl
 have f2 := lk S 0 2 rfl rfl
 have f3 := lk S 0 3 rfl rfl
 go_wp2_with fail
 refine (heldHead_any _ _ _ _ e0 _ _ ((S.own_ 1 rfl).rd) (Nat.le_refl _) (by omega) (1) (by omega) (by omega) mk_g0).mono ?_
 rintro e w16 ⟨rfl, b⟩
 rw [en_g0]
 have q16 : ¬ (1 + (fx0.n : Int) < 0) := by omega
 replace c := c.trans (b.mono c.size)
 replace S := S.keep b
 clear b f0 f1 f2 f3
 have f0 := lk S 7 0 rfl rfl
 have f1 := lk S 7 1 rfl rfl
 have f2 := lk S 7 2 rfl rfl
 have f3 := lk S 7 3 rfl rfl
 go_wp2_with fail
 refine (toTwo_made _ _ _ _ d0 _ ((h0.keep c).up c.size) hz0).mono ?_
 rintro e w17 ⟨At0_0, nt0_0, ct0_0, At0_1, nt0_1, ct0_1, At0_2, nt0_2, ct0_2, At0_3, nt0_3, ct0_3, rfl, o, b⟩
 obtain ⟨fp_t0, S'⟩ := S.has b o c.size
 replace c := c.trans (b.mono c.size)
 clear S; have S := S'; clear S' o b f0 f1 f2 f3
 go_wp2_with fail
 refine (IM.out _ _ _ _ _ _ _ _ _ _ _ _ d0 _ ((S.own_ 0 rfl).rd) hz0).mono ?_
 rintro e w18 ⟨xh0_0, xh0_1, xh0_2, Ah0_3, nh0_3, ch0_3, rfl, o, b⟩
 obtain ⟨fp_h0, S'⟩ := S.has b o c.size
 replace c := c.trans (b.mono c.size)
 clear S; have S := S'; clear S' o b
 rw [← HFX0.out] at S
 rw [← HFX1.out]
 replace S := S.box c.size #[.int .i64 xh0_0, .int .i64 xh0_1, .int .i64 xh0_2, .slice Ah0_3 nh0_3 ch0_3] 59
 replace c := al c S
 have f0 := lk S 0 0 rfl rfl
 have f1 := lk S 0 1 rfl rfl
 have f2 := lk S 0 2 rfl rfl
 have f3 := lk S 0 3 rfl rfl
 have f4 := lk S 7 0 rfl rfl
 have f5 := lk S 7 1 rfl rfl
 have f6 := lk S 7 2 rfl rfl
 have f7 := lk S 7 3 rfl rfl
 go_wp2_with fail
 generalize w18.alloc (.cells #[.int .i64 xh0_0, .int .i64 xh0_1, .int .i64 xh0_2, .slice Ah0_3 nh0_3 ch0_3] 59) = w19 at *
 refine (eqHead_yes _ _ _ _ _ _ _ _ _ _ fx0 _ ((S.own_ 1 rfl).rd) ((S.own_ 8 rfl).rd) (Nat.le_refl _) (Nat.le_refl _) hfz0).mono ?_
 rintro e w20 ⟨rfl, b⟩
 replace c := c.trans (b.mono c.size)
 replace S := S.keep b
 clear b f0 f1 f2 f3 f4 f5 f6 f7
 have f0 := lk S 3 0 rfl rfl
 have f1 := lk S 3 1 rfl rfl
 have f2 := lk S 3 2 rfl rfl
 have f3 := lk S 3 3 rfl rfl
 go_wp2_with fail
 refine (heldHead_any _ _ _ _ e0 _ _ ((S.own_ 4 rfl).rd) (Nat.le_refl _) (by omega) (1) (by omega) (by omega) mk_g0).mono ?_
 rintro e w21 ⟨rfl, b⟩
 rw [en_g0]
 have q21 : ¬ (1 + (fx0.n : Int) < 0) := by omega
 replace c := c.trans (b.mono c.size)
 replace S := S.keep b
 clear b f0 f1 f2 f3
 go_wp2
 go_ret
 exact ⟨rfl, c⟩
def Opens (P : Program) (t : TypeId) (k : Nat) (S : List Dat → Prop) : Prop :=
 P.cellsOf t = k ∧ ∀ (H : Type) (enc : TypeId × Value → H) (w : World) (base : Nat) (spare : Nat → Bool) (held : Bool) (fuel : Nat) (cs : List Value) (x : DataW H × List MemPlace),
  DataW.trod enc P w base spare held fuel t cs = some x → cs.length = k ∧ ∃ ds, S ds ∧ Rd w w.heap.size ds cs
def OpensF (P : Program) (fs : List Field) (off k : Nat) (S : List Dat → Prop) : Prop :=
 ∀ (H : Type) (enc : TypeId × Value → H) (w : World) (base : Nat) (spare : Nat → Bool) (held : Bool) (fuel : Nat) (cs : List Value),
  off + k ≤ cs.length → (∀ f ∈ fs, ∃ x, DataW.trod enc P w base spare held fuel f.type ((cs.drop f.offset).take (P.cellsOf f.type)) = some x) →
  ∃ ds, S ds ∧ Rd w w.heap.size ds ((cs.drop off).take k)
section
variable {P : Program} {t : TypeId}
theorem opens_int (ht : P.underlying t = some (.int .i64)) (hc : P.cellsOf t = 1) : Opens P t 1 (fun ds => ∃ n : Int, ds = [.int n] ∧ (Lit.int .i64 n).wf = true) := by
 refine ⟨hc, fun H enc w base spare held fuel cs x h => ?_⟩
 obtain ⟨n, rfl, _, hw⟩ := DataW.trod_int ht h
 exact ⟨rfl, _, ⟨n, rfl, hw⟩, .int .nil⟩
theorem cells_at {w : World} {base k : Nat} {a : Addr} {ci : List Value} (h : w.cells? base a k = some ci) : ci.length = k ∧ ∀ i, i < k → w.cell? (a.add i) = ci[i]? := by
 unfold World.cells? at h
 split at h
 · refine ⟨by simpa using mapM_some_length h, fun i hi => mapM_some_get h i i (by simp [hi])⟩
 · cases h
theorem add_add (a : Addr) (m n : Nat) (h : a.spot = none) : (a.add m).add n = ⟨a.block, a.off + (m + n), none⟩ := by
 obtain ⟨b, o, s⟩ := a
 subst h
 unfold Addr.add
 by_cases hm : m = 0
 · subst hm
   by_cases hn : n = 0
   · subst hn; rfl
   · simp [hn]
 · by_cases hn : n = 0
   · subst hn; simp [hm]
   · simp [hm, hn, Nat.add_assoc]
theorem spot_none {w : World} {a : Addr} {v : Value} (h : w.cell? a = some v) : a.spot = none := by
 unfold World.cell? at h
 split at h
 · cases hs : a.spot with
   | none => rfl
   | some s => simp [hs] at h
 · cases h
theorem opens_slice {α : Type} {f : α → List Dat} {e e' : TypeId} {k : Nat} (ht : P.underlying t = some (.slice e)) (he : Opens P e k (fun ds => ∃ x, ds = f x)) (k0 : 0 < k) (hk : ∀ x, (f x).length = k) (hc : P.cellsOf t = 1) :
    Opens P t 1 (fun ds => ∃ l : List α, ds = [lst e' k f l]) := by
 refine ⟨hc, fun H enc w base spare held fuel cs x h => ?_⟩
 rcases DataW.trod_slice ht h with ⟨rfl, _⟩ | ⟨a, len, cap, elems, rest, n, _, rfl, _, _, hl, hm, hel, hall, _⟩
 · exact ⟨rfl, _, ⟨[], rfl⟩, .row (n := 0) (us := []) (by simp) (Nat.le_refl _) (Nat.zero_le _) (fun h => absurd h (by omega)) .nil .nil⟩
 · rw [he.1] at hall
   have each : ∀ i, i < len → ∃ (y : α) (ci : List Value), ci.length = k ∧ Rd w w.heap.size (f y) ci ∧ ∀ q, q < k → w.cell? ((a.add (i * k)).add q) = ci[q]? := by
    intro i hi
    have h1 := hall i hi
    rw [List.getElem?_eq_getElem (by omega), Option.bind_eq_some_iff] at h1
    obtain ⟨ci, h2, h3⟩ := h1
    obtain ⟨hlen, ds, ⟨y, rfl⟩, hr⟩ := he.2 H enc w base spare held n ci _ h3
    exact ⟨y, ci, hlen, hr, (cells_at h2).2⟩
   have gath : ∀ m, m ≤ len → ∃ (l : List α) (us : List Value), l.length = m ∧ us.length = m * k ∧ Rd w w.heap.size (l.flatMap f) us ∧ ∀ i, i < m → ∀ q, q < k → w.cell? ((a.add (i * k)).add q) = us[i * k + q]? := by
    intro m
    induction m with
    | zero => intro _; exact ⟨[], [], rfl, by simp, .nil, fun i hi => absurd hi (by omega)⟩
    | succ m ih =>
     intro hm
     obtain ⟨l, us, h1, h2, h3, h4⟩ := ih (by omega)
     obtain ⟨y, ci, h5, h6, h7⟩ := each m (by omega)
     refine ⟨l ++ [y], us ++ ci, by simp [h1], by rw [List.length_append, h2, h5, Nat.add_mul, Nat.one_mul], ?_, fun i hi q hq => ?_⟩
     · have := h3.append h6
       simpa using this
     · by_cases him : i < m
       · rw [h4 i him q hq, List.getElem?_append_left]
         have : (i + 1) * k ≤ m * k := Nat.mul_le_mul_right k (by omega)
         rw [Nat.add_mul, Nat.one_mul] at this
         omega
       · have : i = m := by omega
         subst this
         rw [h7 q hq, List.getElem?_append_right (by omega), h2, Nat.add_sub_cancel_left]
   obtain ⟨l, us, h1, h2, h3, h4⟩ := gath len (Nat.le_refl _)
   refine ⟨rfl, _, ⟨l, rfl⟩, .row (us := us) (by rw [flatMap_len hk, h1]) hl hm (fun hn => ?_) h3 .nil⟩
   have h5 := h4 0 hn 0 k0
   have hus : 0 * k + 0 < us.length := by rw [h2, Nat.zero_mul]; exact Nat.mul_pos hn k0
   rw [List.getElem?_eq_getElem hus] at h5
   have hs : a.spot = none := by
    have := spot_none h5
    simpa [Addr.add] using this
   refine ⟨a.block, a.off, ?_, ?_, fun j hj => ?_⟩
   · obtain ⟨b, o, s⟩ := a
     simp only at hs
     subst hs
     rfl
   · have := World.block_lt_of_cell? w _ h5
     simpa [Addr.add] using this
   · have hdm : j / k < len := Nat.div_lt_of_lt_mul (by rw [Nat.mul_comm]; exact hj)
     have h6 := h4 (j / k) hdm (j % k) (Nat.mod_lt _ k0)
     rw [add_add _ _ _ hs] at h6
     have e : j / k * k + j % k = j := by rw [Nat.mul_comm]; exact Nat.div_add_mod j k
     rw [e] at h6
     exact h6
theorem opensF_nil (off : Nat) : OpensF P [] off 0 (fun ds => ds = []) := fun H enc w base spare held fuel cs _ _ => ⟨[], rfl, by simp; exact .nil⟩
theorem opensF_cons {f : Field} {fs : List Field} {off k1 k2 : Nat} {S1 S2 : List Dat → Prop} (ho : f.offset = off) (h1 : Opens P f.type k1 S1) (h2 : OpensF P fs (off + k1) k2 S2) :
    OpensF P (f :: fs) off (k1 + k2) (fun ds => ∃ d1 d2, S1 d1 ∧ S2 d2 ∧ ds = d1 ++ d2) := by
 intro H enc w base spare held fuel cs hl hall
 obtain ⟨x, hx⟩ := hall f (by simp)
 rw [h1.1, ho] at hx
 obtain ⟨_, d1, s1, r1⟩ := h1.2 H enc w base spare held fuel _ x hx
 obtain ⟨d2, s2, r2⟩ := h2 H enc w base spare held fuel cs (by omega) (fun g hg => hall g (by simp [hg]))
 refine ⟨d1 ++ d2, ⟨d1, d2, s1, s2, rfl⟩, ?_⟩
 have e : (cs.drop off).take (k1 + k2) = (cs.drop off).take k1 ++ (cs.drop (off + k1)).take k2 := by
  rw [List.take_add, List.drop_drop]
 rw [e]
 exact r1.append r2
theorem opens_struct {fs : Array Field} {k : Nat} {S : List Dat → Prop} (ht : P.underlying t = some (.struct fs)) (hf : OpensF P fs.toList 0 k S) (hc : P.cellsOf t = k) : Opens P t k S := by
 refine ⟨hc, fun H enc w base spare held fuel cs x h => ?_⟩
 obtain ⟨xs, n, _, _, hl, hxl, hall⟩ := DataW.trod_struct ht h
 rw [hc] at hl
 obtain ⟨ds, s, r⟩ := hf H enc w base spare held n cs (by omega) (fun f hm => by
  obtain ⟨i, hi⟩ := List.getElem?_of_mem hm
  have hi' : fs[i]? = some f := by simpa using hi
  have hlt : i < xs.length := by
   rw [hxl]
   exact (Array.getElem?_eq_some_iff.1 hi').1
  exact ⟨xs[i], by rw [hall i f hi', List.getElem?_eq_getElem hlt]⟩)
 rw [List.drop_zero, List.take_of_length_le (by omega)] at r
 exact ⟨hl, ds, s, r⟩
end
end Go.Proofs.Ytecihkkagpbkdaa
namespace Go.Proofs.Ytecihkkagpbkdaa
set_option maxRecDepth 100000
set_option linter.unusedVariables false
open Go.RowKit Go.ChangeShapes Go.WideShapes Go.ChangeAt
theorem Opens.mono {P : Program} {t : TypeId} {k : Nat} {S S' : List Dat → Prop} (h : Opens P t k S) (hs : ∀ ds, S ds → S' ds) : Opens P t k S' :=
 ⟨h.1, fun H enc w base spare held fuel cs x hx => by
  obtain ⟨hl, ds, s, r⟩ := h.2 H enc w base spare held fuel cs x hx
  exact ⟨hl, ds, hs ds s, r⟩⟩
theorem opens_i64 : Opens Try.prog 2 1 (fun ds => ∃ n : Int, ds = [Dat.int n]) :=
 (opens_int Try.underlying2 (by kernel_rfl)).mono fun _ ⟨n, e, _⟩ => ⟨n, e⟩
theorem opens_row : Opens Try.prog 71 1 (fun ds => ∃ xs : List Int, ds = rowC xs) :=
 opens_slice Try.underlying71 opens_i64 Nat.one_pos (fun _ => rfl) (by kernel_rfl)
theorem array_list {α : Type} {cs : Array α} {n : Nat} (h : cs.size = n) : ∃ l : List α, l.length = n ∧ cs = l.toArray := ⟨cs.toList, by simpa using h, by simp⟩
end Go.Proofs.Ytecihkkagpbkdaa
namespace Go.Proofs.Ytecihkkagpbkdaa
set_option maxRecDepth 100000
set_option linter.unusedVariables false
open Go.RowKit Go.ChangeShapes Go.WideShapes Go.ChangeAt
theorem opens_mrk : Opens Try.prog 117 3 (fun ds => ∃ x : MarkM, ds = mrkC x) :=
 (opens_struct Try.underlying117 (opensF_cons rfl opens_i64 (opensF_cons rfl opens_i64 (opensF_cons rfl opens_i64 (opensF_nil _)))) (by kernel_rfl)).mono fun _ h => by
  obtain ⟨_, _, ⟨q0, rfl⟩, ⟨_, _, ⟨q1, rfl⟩, ⟨_, _, ⟨q2, rfl⟩, rfl, rfl⟩, rfl⟩, rfl⟩ := h
  exact ⟨⟨q0, q1, q2⟩, rfl⟩
theorem opens_mrks : Opens Try.prog 52 1 (fun ds => ∃ l : List MarkM, ds = [mrkD l]) :=
 opens_slice Try.underlying52 opens_mrk (by decide) mrkC_len (by kernel_rfl)
end Go.Proofs.Ytecihkkagpbkdaa
namespace Go.Proofs.Ytecihkkagpbkdaa
set_option maxRecDepth 100000
set_option linter.unusedVariables false
open Go.RowKit Go.ChangeShapes Go.WideShapes Go.ChangeAt
theorem opens_headT : Opens Try.prog 54 4 (fun ds => ∃ t : HeadM, ds = t.cells) :=
 (opens_struct Try.underlying54 (opensF_cons rfl opens_i64 (opensF_cons rfl opens_i64 (opensF_cons rfl opens_i64 (opensF_cons rfl opens_mrks (opensF_nil _))))) (by kernel_rfl)).mono fun _ h => by
  obtain ⟨_, _, ⟨q0, rfl⟩, ⟨_, _, ⟨q1, rfl⟩, ⟨_, _, ⟨q2, rfl⟩, ⟨_, _, ⟨q3, rfl⟩, rfl, rfl⟩, rfl⟩, rfl⟩, rfl⟩ := h
  exact ⟨⟨q0, q1, q2, q3⟩, by simp [HeadM.cells]⟩
theorem open_head {H : Type} {enc : TypeId × Value → H} {w : World} {base : Nat} {spare : Nat → Bool} {held : Bool} {r : Reach} {b0 : Nat} {v : Value} {x : DataW H} {p : List MemPlace}
    (hv : Value.okWide Try.prog w r b0 54 v) (h : DataW.Trod enc Try.prog w base spare held 54 v x p) :
    ∃ (x0 : Int) (x1 : Int) (x2 : Int) (A3 : Option Addr) (n3 c3 : Nat) (t : HeadM), v = .agg #[.int .i64 x0, .int .i64 x1, .int .i64 x2, .slice A3 n3 c3] ∧ Rd w w.heap.size t.cells [.int .i64 x0, .int .i64 x1, .int .i64 x2, .slice A3 n3 c3] := by
 obtain ⟨cs, rfl, hsz⟩ := okWide_struct Try.underlying54 hv
 rw [opens_headT.1] at hsz
 obtain ⟨l, hl, rfl⟩ := array_list hsz
 match l, hl with
 | [z0, z1, z2, z3], _ =>
 obtain ⟨fuel, hf⟩ := h
 obtain ⟨_, _, ⟨t, rfl⟩, hr⟩ := opens_headT.2 H enc w base spare held fuel _ _ hf
 have hr2 : Rd w w.heap.size t.cells [z0, z1, z2, z3] := hr
 obtain ⟨A3, n3, c3, rfl, rfl, rfl, rfl, _⟩ := hr2.headT
 exact ⟨_, _, _, _, _, _, t, rfl, hr2⟩
end Go.Proofs.Ytecihkkagpbkdaa
namespace Go.Proofs.Ytecihkkagpbkdaa
set_option maxRecDepth 100000
set_option linter.unusedVariables false
open Go.RowKit Go.ChangeShapes Go.WideShapes Go.ChangeAt
theorem opens_op : Opens Try.prog 42 5 (fun ds => ∃ x : OpM, ds = opC x) :=
 (opens_struct Try.underlying42 (opensF_cons rfl opens_i64 (opensF_cons rfl opens_i64 (opensF_cons rfl opens_i64 (opensF_cons rfl opens_i64 (opensF_cons rfl opens_i64 (opensF_nil _)))))) (by kernel_rfl)).mono fun _ h => by
  obtain ⟨_, _, ⟨q0, rfl⟩, ⟨_, _, ⟨q1, rfl⟩, ⟨_, _, ⟨q2, rfl⟩, ⟨_, _, ⟨q3, rfl⟩, ⟨_, _, ⟨q4, rfl⟩, rfl, rfl⟩, rfl⟩, rfl⟩, rfl⟩, rfl⟩ := h
  exact ⟨⟨q0, q1, q2, q3, q4⟩, rfl⟩
theorem opens_ent : Opens Try.prog 44 9 (fun ds => ∃ x : EntM, ds = entC x) :=
 (opens_struct Try.underlying44 (opensF_cons rfl opens_i64 (opensF_cons rfl opens_i64 (opensF_cons rfl opens_i64 (opensF_cons rfl opens_i64 (opensF_cons rfl opens_op (opensF_nil _)))))) (by kernel_rfl)).mono fun _ h => by
  obtain ⟨_, _, ⟨q0, rfl⟩, ⟨_, _, ⟨q1, rfl⟩, ⟨_, _, ⟨q2, rfl⟩, ⟨_, _, ⟨q3, rfl⟩, ⟨_, _, ⟨q4, rfl⟩, rfl, rfl⟩, rfl⟩, rfl⟩, rfl⟩, rfl⟩ := h
  exact ⟨⟨q0, q1, q2, q3, q4.kind, q4.a, q4.b, q4.c, q4.d⟩, rfl⟩
theorem open_ent {H : Type} {enc : TypeId × Value → H} {w : World} {base : Nat} {spare : Nat → Bool} {held : Bool} {r : Reach} {b0 : Nat} {v : Value} {x : DataW H} {p : List MemPlace}
    (hv : Value.okWide Try.prog w r b0 44 v) (h : DataW.Trod enc Try.prog w base spare held 44 v x p) :
    ∃ (x0 x1 x2 x3 x4 x5 x6 x7 x8 : Int) (t : EntM), v = .agg #[.int .i64 x0, .int .i64 x1, .int .i64 x2, .int .i64 x3, .int .i64 x4, .int .i64 x5, .int .i64 x6, .int .i64 x7, .int .i64 x8] ∧ Rd w w.heap.size (entC t) [.int .i64 x0, .int .i64 x1, .int .i64 x2, .int .i64 x3, .int .i64 x4, .int .i64 x5, .int .i64 x6, .int .i64 x7, .int .i64 x8] := by
 obtain ⟨cs, rfl, hsz⟩ := okWide_struct Try.underlying44 hv
 rw [opens_ent.1] at hsz
 obtain ⟨l, hl, rfl⟩ := array_list hsz
 match l, hl with
 | [z0, z1, z2, z3, z4, z5, z6, z7, z8], _ =>
  obtain ⟨fuel, hf⟩ := h
  obtain ⟨_, _, ⟨t, rfl⟩, hr⟩ := opens_ent.2 H enc w base spare held fuel _ _ hf
  have g0 : Rd w w.heap.size (entC t) [z0, z1, z2, z3, z4, z5, z6, z7, z8] := hr
  have hr2 := g0
  obtain ⟨e0, g1⟩ := Rd.int_cons g0
  obtain ⟨e1, g2⟩ := Rd.int_cons g1
  obtain ⟨e2, g3⟩ := Rd.int_cons g2
  obtain ⟨e3, g4⟩ := Rd.int_cons g3
  obtain ⟨e4, g5⟩ := Rd.int_cons g4
  obtain ⟨e5, g6⟩ := Rd.int_cons g5
  obtain ⟨e6, g7⟩ := Rd.int_cons g6
  obtain ⟨e7, g8⟩ := Rd.int_cons g7
  obtain ⟨e8, g9⟩ := Rd.int_cons g8
  subst e0 e1 e2 e3 e4 e5 e6 e7 e8
  exact ⟨_, _, _, _, _, _, _, _, _, t, rfl, hr2⟩
end Go.Proofs.Ytecihkkagpbkdaa

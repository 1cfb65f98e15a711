/- Parts of my texts: HeadIC LawHeadRow. -/
import Derived.Test.YtljnplalnhiidaaK29
namespace Go.Proofs.Ytljnplalnhiidaa
set_option maxRecDepth 100000
set_option linter.unusedVariables false
open Go.RowKit
theorem iHeadOk_c : CHeadOk 12 := fun x0 x1 x2 A n cc l w h hs => iHeadOk_any x0 x1 x2 A n cc _ l w h (Nat.le_refl _) hs
theorem iHeadRow_c : CHeadRow 15 := fun x0 x1 x2 A n cc l w h hs => (iHeadRow_any x0 x1 x2 A n cc _ l w h (Nat.le_refl _) hs).mono fun _ _ ⟨A2, n2, c2, he, _, o, b⟩ => ⟨A2, n2, c2, he, o, b⟩
theorem iRowHead_c : CRowHead 22 := fun A n cc d w h => iRowHead_any A n cc _ d w h (Nat.le_refl _)
theorem iSlotRow_c : CSlotRow 26 := fun x0 x1 x2 x3 x4 x5 x6 x7 x8 w => (iSlotRow_any x0 x1 x2 x3 x4 x5 x6 x7 x8 w).mono fun _ _ ⟨A2, n2, c2, he, _, o, b⟩ => ⟨A2, n2, c2, he, o, b⟩
theorem iRowSlot_c : CRowSlot 28 := fun A n cc d w h => iRowSlot_any A n cc _ d w h (Nat.le_refl _)
theorem iSlotOf_c : CSlotOf 31 := fun x w => iSlotOf_any x w
set_option maxHeartbeats 12800000 in
theorem lawHeadRow (f : HeadM → (List Int))
    (hf0 : ∀ (d0 : HeadM), d0.sz ≤ 1048576 → ((f d0)).length ≤ 1048577)
    (hs : ∀ (xa0_0 : Int) (xa0_1 : Int) (xa0_2 : Int) (Aa0_3 : Option Addr) (na0_3 ca0_3 : Nat) (d0 : HeadM) (w : World), Rd w w.heap.size (d0.cells) [.int .i64 xa0_0, .int .i64 xa0_1, .int .i64 xa0_2, .slice Aa0_3 na0_3 ca0_3] → d0.sz ≤ 1048576 → Calls Try.prog 14 #[.agg #[.int .i64 xa0_0, .int .i64 xa0_1, .int .i64 xa0_2, .slice Aa0_3 na0_3 ca0_3]] w (fun e w' => ∃ (Ar0_0 : Option Addr) (nr0_0 cr0_0 : Nat), e = .returned (.slice Ar0_0 nr0_0 cr0_0) ∧ Has w' w.heap.size (rowCells ((f d0))) [.slice Ar0_0 nr0_0 cr0_0] ∧ Below w.heap.size w w'))
    (hi : ∀ (xa0_0 : Int) (xa0_1 : Int) (xa0_2 : Int) (Aa0_3 : Option Addr) (na0_3 ca0_3 : Nat) (d0 : HeadM) (w : World), Rd w w.heap.size (d0.cells) [.int .i64 xa0_0, .int .i64 xa0_1, .int .i64 xa0_2, .slice Aa0_3 na0_3 ca0_3] → d0.sz ≤ 1048576 → Calls Try.prog 15 #[.agg #[.int .i64 xa0_0, .int .i64 xa0_1, .int .i64 xa0_2, .slice Aa0_3 na0_3 ca0_3]] w (fun e w' => ∃ (Ar0_0 : Option Addr) (nr0_0 cr0_0 : Nat), e = .returned (.slice Ar0_0 nr0_0 cr0_0) ∧ Has w' w.heap.size (rowCells ((f d0))) [.slice Ar0_0 nr0_0 cr0_0] ∧ Below w.heap.size w w'))
    (xa0_0 : Int) (xa0_1 : Int) (xa0_2 : Int) (Aa0_3 : Option Addr) (na0_3 ca0_3 : Nat) (d0 : HeadM) (w : World) (h0 : Rd w w.heap.size (d0.cells) [.int .i64 xa0_0, .int .i64 xa0_1, .int .i64 xa0_2, .slice Aa0_3 na0_3 ca0_3]) :
    Calls Try.prog 4 #[.agg #[.int .i64 xa0_0, .int .i64 xa0_1, .int .i64 xa0_2, .slice Aa0_3 na0_3 ca0_3]] w fun e w' => e = .returned (.bool true) ∧ Below w.heap.size w w' := by
 have SP := jd hs
 have IM := jd hi
 clear hs hi
 have S := Sep.nil w w.heap.size
 have c := Below.refl w.heap.size w
 replace S := S.box c.size #[.int .i64 xa0_0, .int .i64 xa0_1, .int .i64 xa0_2, .slice Aa0_3 na0_3 ca0_3] 24
 replace c := al c S
 go_enter Try.func4, Try.ntmps4
 go_wp2_with fail
 generalize w.alloc (.cells #[.int .i64 xa0_0, .int .i64 xa0_1, .int .i64 xa0_2, .slice Aa0_3 na0_3 ca0_3] 24) = w1 at *
 refine (szHead_any _ _ _ _ d0 _ _ _ (h0.keep c) c.size (by omega) (by omega)).mono ?_
 rintro e w2 ⟨rfl, b⟩
 replace c := c.trans (b.mono c.size)
 replace S := S.keep b
 clear b
 by_cases hzi0 : ((d0.sz : Nat) : Int) ≤ 1048576
 case neg =>
  rw [left, if_neg hzi0]
  go_wp2
  go_ret
  exact ⟨rfl, c⟩
 rw [left, if_pos hzi0]
 have hz0 : d0.sz ≤ 1048576 := by omega
 have qz0 : ¬ ((1048576 : Int) - (d0.sz : Int) < 0) := by omega
 obtain ⟨fx0, hfx0⟩ : ∃ q, q = (f d0) := ⟨_, rfl⟩
 have hfz0 := hf0 d0 hz0
 rw [← hfx0] at hfz0
 have HFX0 := jd hfx0
 clear hfx0
 have f0 := lk S 0 0 rfl rfl
 have f1 := lk S 0 1 rfl rfl
 have f2 := lk S 0 2 rfl rfl
 have f3 := lk S 0 3 rfl rfl
 go_wp2_with fail
 refine (toHead_made _ _ _ _ d0 _ ((h0.keep c).up c.size) hz0).mono ?_
 rintro e w3 ⟨xs0_0, xs0_1, xs0_2, As0_3, ns0_3, cs0_3, rfl, o, b⟩
 obtain ⟨fp_s0, S'⟩ := S.has b o c.size
 replace c := c.trans (b.mono c.size)
 clear S; have S := S'; clear S' o b f0 f1 f2 f3
 go_wp2_with fail
 refine (SP.out _ _ _ _ _ _ d0 _ ((S.own_ 0 rfl).rd) hz0).mono ?_
 rintro e w4 ⟨Aw0_0, nw0_0, cw0_0, rfl, o, b⟩
 obtain ⟨fp_w0, S'⟩ := S.has b o c.size
 replace c := c.trans (b.mono c.size)
 clear S; have S := S'; clear S' o b
 rw [← HFX0.out] at S
 have f0 := lk S 2 0 rfl rfl
 have f1 := lk S 2 1 rfl rfl
 have f2 := lk S 2 2 rfl rfl
 have f3 := lk S 2 3 rfl rfl
 go_wp2_with fail
 refine (toHead_made _ _ _ _ d0 _ ((h0.keep c).up c.size) hz0).mono ?_
 rintro e w5 ⟨xx0_0, xx0_1, xx0_2, Ax0_3, nx0_3, cx0_3, rfl, o, b⟩
 obtain ⟨fp_x0, S'⟩ := S.has b o c.size
 replace c := c.trans (b.mono c.size)
 clear S; have S := S'; clear S' o b f0 f1 f2 f3
 replace S := S.box c.size #[.int .i64 xx0_0, .int .i64 xx0_1, .int .i64 xx0_2, .slice Ax0_3 nx0_3 cx0_3] 29
 replace c := al c S
 go_wp2_with fail
 generalize w5.alloc (.cells #[.int .i64 xx0_0, .int .i64 xx0_1, .int .i64 xx0_2, .slice Ax0_3 nx0_3 cx0_3] 29) = w6 at *
 refine (IM.out _ _ _ _ _ _ d0 _ ((S.own_ 1 rfl).rd) hz0).mono ?_
 rintro e w7 ⟨Ag0_0, ng0_0, cg0_0, rfl, o, b⟩
 obtain ⟨fp_g0, S'⟩ := S.has b o c.size
 replace c := c.trans (b.mono c.size)
 clear S; have S := S'; clear S' o b
 rw [← HFX0.out] at S
 go_wp2_with fail
 refine (eqI_yes _ _ _ _ _ _ _ _ fx0 _ ((S.own_ 0 rfl).rd) ((S.own_ 3 rfl).rd) hfz0).mono ?_
 rintro e w8 ⟨rfl, b⟩
 replace c := c.trans (b.mono c.size)
 replace S := S.keep b
 clear b
 have f0 := lk S 1 0 rfl rfl
 have f1 := lk S 1 1 rfl rfl
 have f2 := lk S 1 2 rfl rfl
 have f3 := lk S 1 3 rfl rfl
 have f4 := lk S 5 0 rfl rfl
 have f5 := lk S 5 1 rfl rfl
 have f6 := lk S 5 2 rfl rfl
 have f7 := lk S 5 3 rfl rfl
 have SH := jd S
 have CH := jd c
 clear S c
 go_wp2_with fail
 go_region_held3 (fun v => v.cell? ⟨w5.heap.size, 0, none⟩ = some (.int .i64 xx0_0) ∧ v.cell? ⟨w5.heap.size, 1, none⟩ = some (.int .i64 xx0_1) ∧ v.cell? ⟨w5.heap.size, 2, none⟩ = some (.int .i64 xx0_2) ∧ v.cell? ⟨w5.heap.size, 3, none⟩ = some (.slice Ax0_3 nx0_3 cx0_3) ∧ v.cell? ⟨w.heap.size, 0, none⟩ = some (.int .i64 xa0_0) ∧ v.cell? ⟨w.heap.size, 1, none⟩ = some (.int .i64 xa0_1) ∧ v.cell? ⟨w.heap.size, 2, none⟩ = some (.int .i64 xa0_2) ∧ v.cell? ⟨w.heap.size, 3, none⟩ = some (.slice Aa0_3 na0_3 ca0_3)) (go_keep)
  (first
   | (go_at_call 11
      refine (toHead_made _ _ _ _ d0 _ ((h0.keep CH.out.drew).up CH.out.size) hz0).mono ?_
      rintro e w9 ⟨xz0_0, xz0_1, xz0_2, Az0_3, nz0_3, cz0_3, rfl, o, b⟩
      have S1 := (SH.out.keep ((Below.refl _ _).drew)).keep b
      have g0 : (w9).cell? ⟨w5.heap.size, 0, none⟩ = some (.int .i64 xx0_0) := (S1.at_ 1 rfl).cell 0
      have g1 : (w9).cell? ⟨w5.heap.size, 1, none⟩ = some (.int .i64 xx0_1) := (S1.at_ 1 rfl).cell 1
      have g2 : (w9).cell? ⟨w5.heap.size, 2, none⟩ = some (.int .i64 xx0_2) := (S1.at_ 1 rfl).cell 2
      have g3 : (w9).cell? ⟨w5.heap.size, 3, none⟩ = some (.slice Ax0_3 nx0_3 cx0_3) := (S1.at_ 1 rfl).cell 3
      have g4 : (w9).cell? ⟨w.heap.size, 0, none⟩ = some (.int .i64 xa0_0) := (S1.at_ 5 rfl).cell 0
      have g5 : (w9).cell? ⟨w.heap.size, 1, none⟩ = some (.int .i64 xa0_1) := (S1.at_ 5 rfl).cell 1
      have g6 : (w9).cell? ⟨w.heap.size, 2, none⟩ = some (.int .i64 xa0_2) := (S1.at_ 5 rfl).cell 2
      have g7 : (w9).cell? ⟨w.heap.size, 3, none⟩ = some (.slice Aa0_3 na0_3 ca0_3) := (S1.at_ 5 rfl).cell 3
      have O1 := jd o
      have B1 := jd b
      clear S1 o b)
   | (go_at_call 13
      refine (eqHead_yes _ _ _ _ _ _ _ _ _ _ d0 _ ((((SH.out.keep ((Below.refl _ _).drew)).keep B1.out).own_ 2 rfl).rd) (O1.out.rd) (Nat.le_refl _) (Nat.le_refl _) (by omega)).mono ?_
      rintro e w10 ⟨rfl, b⟩
      have S3 := ((SH.out.keep ((Below.refl _ _).drew)).keep B1.out).keep b
      have r0 : (w10).cell? ⟨w5.heap.size, 0, none⟩ = some (.int .i64 xx0_0) := (S3.at_ 1 rfl).cell 0
      have r1 : (w10).cell? ⟨w5.heap.size, 1, none⟩ = some (.int .i64 xx0_1) := (S3.at_ 1 rfl).cell 1
      have r2 : (w10).cell? ⟨w5.heap.size, 2, none⟩ = some (.int .i64 xx0_2) := (S3.at_ 1 rfl).cell 2
      have r3 : (w10).cell? ⟨w5.heap.size, 3, none⟩ = some (.slice Ax0_3 nx0_3 cx0_3) := (S3.at_ 1 rfl).cell 3
      have r4 : (w10).cell? ⟨w.heap.size, 0, none⟩ = some (.int .i64 xa0_0) := (S3.at_ 5 rfl).cell 0
      have r5 : (w10).cell? ⟨w.heap.size, 1, none⟩ = some (.int .i64 xa0_1) := (S3.at_ 5 rfl).cell 1
      have r6 : (w10).cell? ⟨w.heap.size, 2, none⟩ = some (.int .i64 xa0_2) := (S3.at_ 5 rfl).cell 2
      have r7 : (w10).cell? ⟨w.heap.size, 3, none⟩ = some (.slice Aa0_3 na0_3 ca0_3) := (S3.at_ 5 rfl).cell 3
      have S2 := jd S3
      have C2 := jd ((CH.out.drew.trans (B1.out.mono CH.out.size)).trans (b.mono (CH.out.drew.trans (B1.out.mono CH.out.size)).size))
      clear b S3))
 have S := S2.out
 have c := C2.out
 clear SH CH S2 C2 O1 B1 f0 g0 r0 f1 g1 r1 f2 g2 r2 f3 g3 r3 f4 g4 r4 f5 g5 r5 f6 g6 r6 f7 g7 r7
 have f0 := lk S 1 0 rfl rfl
 have f1 := lk S 1 1 rfl rfl
 have f2 := lk S 1 2 rfl rfl
 have f3 := lk S 1 3 rfl rfl
 go_wp2_with fail
 refine (markHead_any _ _ _ _ d0 _ _ (S.own_ 2 rfl) (S.nodup_own 2 rfl) (by omega) (1) (by omega) (by omega)).mono ?_
 rintro e w11 ⟨m0, rfl, o, t, mk_x0, en_x0, es_x0⟩
 have b := S.below 2 rfl t c.size
 have S' := S.mark 2 rfl t o
 replace c := c.trans b
 clear S; have S := S'; clear S' o t b f0 f1 f2 f3
 have nb0 : d0.n ≤ 9437193 := by
  first | omega | exact head_n_le _ (by omega)
 have qk : ¬ (1 + (d0.n : Int) < 0) := by omega
 go_wp2_with fail
 refine (eqI_yes _ _ _ _ _ _ _ _ fx0 _ ((S.own_ 0 rfl).rd) ((S.own_ 3 rfl).rd) hfz0).mono ?_
 rintro e w12 ⟨rfl, b⟩
 replace c := c.trans (b.mono c.size)
 replace S := S.keep b
 clear b
 have nr0 : fx0.length ≤ 2097154 := by
  first | omega | exact i_n_le _ (by omega)
 go_wp2_with fail
 refine (markI_any _ _ _ fx0 _ _ (S.own_ 0 rfl) (S.nodup_own 0 rfl) hfz0 (1) (by omega) (by omega)).mono ?_
 rintro e w13 ⟨e0, rfl, o, t, mk_g0, en_g0, es_g0⟩
 have b := S.below 0 rfl t c.size
 have S' := S.mark 0 rfl t o
 replace c := c.trans b
 clear S; have S := S'; clear S' o t b
 go_wp2_with fail
 refine (heldI_any _ _ _ e0 _ _ ((S.own_ 0 rfl).rd) (by omega) (1) (by omega) (by omega) mk_g0).mono ?_
 rintro e w14 ⟨rfl, b⟩
 rw [en_g0]
 have q14 : ¬ (1 + (fx0.length : Int) < 0) := by omega
 replace c := c.trans (b.mono c.size)
 replace S := S.keep b
 clear b
 have f0 := lk S 5 0 rfl rfl
 have f1 := lk S 5 1 rfl rfl
 have f2 := lk S 5 2 rfl rfl
 have f3 := lk S 5 3 rfl rfl
 go_wp2_with fail
 refine (toHead_made _ _ _ _ d0 _ ((h0.keep c).up c.size) hz0).mono ?_
 rintro e w15 ⟨xt0_0, xt0_1, xt0_2, At0_3, nt0_3, ct0_3, rfl, o, b⟩
 obtain ⟨fp_t0, S'⟩ := S.has b o c.size
 replace c := c.trans (b.mono c.size)
 clear S; have S := S'; clear S' o b f0 f1 f2 f3
 go_wp2_with fail
 refine (IM.out _ _ _ _ _ _ d0 _ ((S.own_ 0 rfl).rd) hz0).mono ?_
 rintro e w16 ⟨Ah0_0, nh0_0, ch0_0, rfl, o, b⟩
 obtain ⟨fp_h0, S'⟩ := S.has b o c.size
 replace c := c.trans (b.mono c.size)
 clear S; have S := S'; clear S' o b
 rw [← HFX0.out] at S
 go_wp2_with fail
 refine (eqI_yes _ _ _ _ _ _ _ _ fx0 _ ((S.own_ 0 rfl).rd) ((S.own_ 5 rfl).rd) hfz0).mono ?_
 rintro e w17 ⟨rfl, b⟩
 replace c := c.trans (b.mono c.size)
 replace S := S.keep b
 clear b
 go_wp2_with fail
 refine (heldI_any _ _ _ e0 _ _ ((S.own_ 2 rfl).rd) (by omega) (1) (by omega) (by omega) mk_g0).mono ?_
 rintro e w18 ⟨rfl, b⟩
 rw [en_g0]
 have q18 : ¬ (1 + (fx0.length : Int) < 0) := by omega
 replace c := c.trans (b.mono c.size)
 replace S := S.keep b
 clear b
 go_wp2
 go_ret
 exact ⟨rfl, c⟩
end Go.Proofs.Ytljnplalnhiidaa

/- Parts of my texts: LawRowHead LawSlotRow. -/
import Derived.Test.YtljnplalnhiidaaK3
import Derived.Test.YtljnplalnhiidaaK4
namespace Go.Proofs.Ytljnplalnhiidaa
set_option maxRecDepth 100000
set_option linter.unusedVariables false
open Go.RowKit
set_option maxHeartbeats 12800000 in
theorem lawRowHead (f : List Int → (HeadM) × Bool)
    (hf0 : ∀ (d0 : List Int), d0.length ≤ 1048576 → ((f d0).1).sz ≤ 1048577)
    (hs : ∀ (Aa0_0 : Option Addr) (na0_0 ca0_0 : Nat) (d0 : List Int) (w : World), Rd w w.heap.size (rowCells d0) [.slice Aa0_0 na0_0 ca0_0] → d0.length ≤ 1048576 → Calls Try.prog 20 #[.slice Aa0_0 na0_0 ca0_0] w (fun e w' => ∃ (xr0_0 : Int) (xr0_1 : Int) (xr0_2 : Int) (Ar0_3 : Option Addr) (nr0_3 cr0_3 : Nat), e = .returned (.tuple #[.agg #[.int .i64 xr0_0, .int .i64 xr0_1, .int .i64 xr0_2, .slice Ar0_3 nr0_3 cr0_3], .bool (f d0).2]) ∧ Has w' w.heap.size (((f d0).1).cells) [.int .i64 xr0_0, .int .i64 xr0_1, .int .i64 xr0_2, .slice Ar0_3 nr0_3 cr0_3] ∧ Below w.heap.size w w'))
    (hi : ∀ (Aa0_0 : Option Addr) (na0_0 ca0_0 : Nat) (d0 : List Int) (w : World), Rd w w.heap.size (rowCells d0) [.slice Aa0_0 na0_0 ca0_0] → d0.length ≤ 1048576 → Calls Try.prog 22 #[.slice Aa0_0 na0_0 ca0_0] w (fun e w' => ∃ (xr0_0 : Int) (xr0_1 : Int) (xr0_2 : Int) (Ar0_3 : Option Addr) (nr0_3 cr0_3 : Nat), e = .returned (.tuple #[.agg #[.int .i64 xr0_0, .int .i64 xr0_1, .int .i64 xr0_2, .slice Ar0_3 nr0_3 cr0_3], .bool (f d0).2]) ∧ Has w' w.heap.size (((f d0).1).cells) [.int .i64 xr0_0, .int .i64 xr0_1, .int .i64 xr0_2, .slice Ar0_3 nr0_3 cr0_3] ∧ Below w.heap.size w w'))
    (Aa0_0 : Option Addr) (na0_0 ca0_0 : Nat) (d0 : List Int) (w : World) (h0 : Rd w w.heap.size (rowCells d0) [.slice Aa0_0 na0_0 ca0_0]) :
    Calls Try.prog 5 #[.slice Aa0_0 na0_0 ca0_0] w fun e w' => e = .returned (.bool true) ∧ Below w.heap.size w w' := by
 have SP := jd hs
 have IM := jd hi
 clear hs hi
 have len0 : na0_0 = d0.length := by
  obtain ⟨_, _, _, e, hh, _⟩ := h0.irow
  injection e with e1 e2 e3
  subst e2
  exact hh.1.symm
 have mx0 : na0_0 ≤ maxLen := by
  obtain ⟨_, _, _, e, _, h1, h2⟩ := h0.irow
  injection e with e1 e2 e3
  subst e2 e3
  exact Nat.le_trans h1 h2
 unfold maxLen at mx0
 have S := Sep.nil w w.heap.size
 have c := Below.refl w.heap.size w
 by_cases hbig0 : 1048576 < na0_0
 case pos =>
  go_enter Try.func5, Try.ntmps5
  go_wp2
  go_ret
  exact ⟨rfl, c⟩
 have hz0 : d0.length ≤ 1048576 := by omega
 have LE0 := jd len0
 clear len0
 go_enter Try.func5, Try.ntmps5
 obtain ⟨fx0, hfx0⟩ : ∃ q, q = (f d0).1 := ⟨_, rfl⟩
 have hfz0 := hf0 d0 hz0
 rw [← hfx0] at hfz0
 have HFX0 := jd hfx0
 clear hfx0
 obtain ⟨fx1, hfx1⟩ : ∃ q, q = (f d0).2 := ⟨_, rfl⟩
 have HFX1 := jd hfx1
 clear hfx1
 go_wp2_with fail
 refine (toI_made _ _ _ d0 _ ((h0.keep c).up c.size) hz0).mono ?_
 rintro e w1 ⟨As0_0, ns0_0, cs0_0, rfl, o, b⟩
 obtain ⟨fp_s0, S'⟩ := S.has b o c.size
 replace c := c.trans (b.mono c.size)
 clear S; have S := S'; clear S' o b
 go_wp2_with fail
 refine (SP.out _ _ _ d0 _ ((S.own_ 0 rfl).rd) hz0).mono ?_
 rintro e w2 ⟨xw0_0, xw0_1, xw0_2, Aw0_3, nw0_3, cw0_3, rfl, o, b⟩
 obtain ⟨fp_w0, S'⟩ := S.has b o c.size
 replace c := c.trans (b.mono c.size)
 clear S; have S := S'; clear S' o b
 rw [← HFX0.out] at S
 rw [← HFX1.out]
 replace S := S.box c.size #[.int .i64 xw0_0, .int .i64 xw0_1, .int .i64 xw0_2, .slice Aw0_3 nw0_3 cw0_3] 29
 replace c := al c S
 go_wp2_with fail
 generalize w2.alloc (.cells #[.int .i64 xw0_0, .int .i64 xw0_1, .int .i64 xw0_2, .slice Aw0_3 nw0_3 cw0_3] 29) = w3 at *
 refine (toI_made _ _ _ d0 _ ((h0.keep c).up c.size) hz0).mono ?_
 rintro e w4 ⟨Ax0_0, nx0_0, cx0_0, rfl, o, b⟩
 obtain ⟨fp_x0, S'⟩ := S.has b o c.size
 replace c := c.trans (b.mono c.size)
 clear S; have S := S'; clear S' o b
 go_wp2_with fail
 refine (IM.out _ _ _ d0 _ ((S.own_ 0 rfl).rd) hz0).mono ?_
 rintro e w5 ⟨xg0_0, xg0_1, xg0_2, Ag0_3, ng0_3, cg0_3, rfl, o, b⟩
 obtain ⟨fp_g0, S'⟩ := S.has b o c.size
 replace c := c.trans (b.mono c.size)
 clear S; have S := S'; clear S' o b
 rw [← HFX0.out] at S
 rw [← HFX1.out]
 replace S := S.box c.size #[.int .i64 xg0_0, .int .i64 xg0_1, .int .i64 xg0_2, .slice Ag0_3 ng0_3 cg0_3] 29
 replace c := al c S
 have f0 := lk S 0 0 rfl rfl
 have f1 := lk S 0 1 rfl rfl
 have f2 := lk S 0 2 rfl rfl
 have f3 := lk S 0 3 rfl rfl
 have f4 := lk S 3 0 rfl rfl
 have f5 := lk S 3 1 rfl rfl
 have f6 := lk S 3 2 rfl rfl
 have f7 := lk S 3 3 rfl rfl
 go_wp2_with fail
 generalize w5.alloc (.cells #[.int .i64 xg0_0, .int .i64 xg0_1, .int .i64 xg0_2, .slice Ag0_3 ng0_3 cg0_3] 29) = w6 at *
 refine (eqHead_yes _ _ _ _ _ _ _ _ _ _ fx0 _ ((S.own_ 1 rfl).rd) ((S.own_ 4 rfl).rd) (Nat.le_refl _) (Nat.le_refl _) hfz0).mono ?_
 rintro e w7 ⟨rfl, b⟩
 replace c := c.trans (b.mono c.size)
 replace S := S.keep b
 clear b f0 f1 f2 f3 f4 f5 f6 f7
 go_wp2_with fail
 refine (toI_made _ _ _ d0 _ ((h0.keep c).up c.size) hz0).mono ?_
 rintro e w8 ⟨Az0_0, nz0_0, cz0_0, rfl, o, b⟩
 obtain ⟨fp_z0, S'⟩ := S.has b o c.size
 replace c := c.trans (b.mono c.size)
 clear S; have S := S'; clear S' o b
 go_wp2_with fail
 refine (eqI_yes _ _ _ _ _ _ _ _ d0 _ ((S.own_ 3 rfl).rd) ((S.own_ 0 rfl).rd) (by omega)).mono ?_
 rintro e w9 ⟨rfl, b⟩
 replace c := c.trans (b.mono c.size)
 replace S := S.keep b
 clear b
 go_wp2_with fail
 refine (markI_any _ _ _ d0 _ _ (S.own_ 3 rfl) (S.nodup_own 3 rfl) (by omega) (1) (by omega) (by omega)).mono ?_
 rintro e w10 ⟨m0, rfl, o, t, mk_x0, en_x0, es_x0⟩
 have b := S.below 3 rfl t c.size
 have S' := S.mark 3 rfl t o
 replace c := c.trans b
 clear S; have S := S'; clear S' o t b
 have nb0 : d0.length ≤ 2097154 := by
  first | omega | exact i_n_le _ (by omega)
 have qk : ¬ (1 + (d0.length : Int) < 0) := by omega
 have f0 := lk S 1 0 rfl rfl
 have f1 := lk S 1 1 rfl rfl
 have f2 := lk S 1 2 rfl rfl
 have f3 := lk S 1 3 rfl rfl
 have f4 := lk S 4 0 rfl rfl
 have f5 := lk S 4 1 rfl rfl
 have f6 := lk S 4 2 rfl rfl
 have f7 := lk S 4 3 rfl rfl
 go_wp2_with fail
 refine (eqHead_yes _ _ _ _ _ _ _ _ _ _ fx0 _ ((S.own_ 2 rfl).rd) ((S.own_ 5 rfl).rd) (Nat.le_refl _) (Nat.le_refl _) hfz0).mono ?_
 rintro e w11 ⟨rfl, b⟩
 replace c := c.trans (b.mono c.size)
 replace S := S.keep b
 clear b f0 f1 f2 f3 f4 f5 f6 f7
 have nr0 : fx0.n ≤ 9437193 := by
  first | omega | exact head_n_le _ (by omega)
 have f0 := lk S 1 0 rfl rfl
 have f1 := lk S 1 1 rfl rfl
 have f2 := lk S 1 2 rfl rfl
 have f3 := lk S 1 3 rfl rfl
 go_wp2_with fail
 refine (markHead_any _ _ _ _ fx0 _ _ (S.own_ 2 rfl) (S.nodup_own 2 rfl) hfz0 (1) (by omega) (by omega)).mono ?_
 rintro e w12 ⟨e0, rfl, o, t, mk_g0, en_g0, es_g0⟩
 have b := S.below 2 rfl t c.size
 have S' := S.mark 2 rfl t o
 replace c := c.trans b
 clear S; have S := S'; clear S' o t b f0 f1 f2 f3
 have f0 := lk S 1 0 rfl rfl
 have f1 := lk S 1 1 rfl rfl
 have f2 := lk S 1 2 rfl rfl
 have f3 := lk S 1 3 rfl rfl
 go_wp2_with fail
 refine (heldHead_any _ _ _ _ e0 _ _ ((S.own_ 2 rfl).rd) (Nat.le_refl _) (by omega) (1) (by omega) (by omega) mk_g0).mono ?_
 rintro e w13 ⟨rfl, b⟩
 rw [en_g0]
 have q13 : ¬ (1 + (fx0.n : Int) < 0) := by omega
 replace c := c.trans (b.mono c.size)
 replace S := S.keep b
 clear b f0 f1 f2 f3
 go_wp2_with fail
 refine (toI_made _ _ _ d0 _ ((h0.keep c).up c.size) hz0).mono ?_
 rintro e w14 ⟨At0_0, nt0_0, ct0_0, rfl, o, b⟩
 obtain ⟨fp_t0, S'⟩ := S.has b o c.size
 replace c := c.trans (b.mono c.size)
 clear S; have S := S'; clear S' o b
 go_wp2_with fail
 refine (IM.out _ _ _ d0 _ ((S.own_ 0 rfl).rd) hz0).mono ?_
 rintro e w15 ⟨xh0_0, xh0_1, xh0_2, Ah0_3, nh0_3, ch0_3, rfl, o, b⟩
 obtain ⟨fp_h0, S'⟩ := S.has b o c.size
 replace c := c.trans (b.mono c.size)
 clear S; have S := S'; clear S' o b
 rw [← HFX0.out] at S
 rw [← HFX1.out]
 replace S := S.box c.size #[.int .i64 xh0_0, .int .i64 xh0_1, .int .i64 xh0_2, .slice Ah0_3 nh0_3 ch0_3] 29
 replace c := al c S
 have f0 := lk S 0 0 rfl rfl
 have f1 := lk S 0 1 rfl rfl
 have f2 := lk S 0 2 rfl rfl
 have f3 := lk S 0 3 rfl rfl
 have f4 := lk S 7 0 rfl rfl
 have f5 := lk S 7 1 rfl rfl
 have f6 := lk S 7 2 rfl rfl
 have f7 := lk S 7 3 rfl rfl
 go_wp2_with fail
 generalize w15.alloc (.cells #[.int .i64 xh0_0, .int .i64 xh0_1, .int .i64 xh0_2, .slice Ah0_3 nh0_3 ch0_3] 29) = w16 at *
 refine (eqHead_yes _ _ _ _ _ _ _ _ _ _ fx0 _ ((S.own_ 1 rfl).rd) ((S.own_ 8 rfl).rd) (Nat.le_refl _) (Nat.le_refl _) hfz0).mono ?_
 rintro e w17 ⟨rfl, b⟩
 replace c := c.trans (b.mono c.size)
 replace S := S.keep b
 clear b f0 f1 f2 f3 f4 f5 f6 f7
 have f0 := lk S 4 0 rfl rfl
 have f1 := lk S 4 1 rfl rfl
 have f2 := lk S 4 2 rfl rfl
 have f3 := lk S 4 3 rfl rfl
 go_wp2_with fail
 refine (heldHead_any _ _ _ _ e0 _ _ ((S.own_ 5 rfl).rd) (Nat.le_refl _) (by omega) (1) (by omega) (by omega) mk_g0).mono ?_
 rintro e w18 ⟨rfl, b⟩
 rw [en_g0]
 have q18 : ¬ (1 + (fx0.n : Int) < 0) := by omega
 replace c := c.trans (b.mono c.size)
 replace S := S.keep b
 clear b f0 f1 f2 f3
 go_wp2
 go_ret
 exact ⟨rfl, c⟩
set_option maxHeartbeats 12800000 in
theorem lawSlotRow (f : EntM → List Int) (hf0 : ∀ d, (f d).length ≤ 1048577)
    (hs : ∀ (x0 x1 x2 x3 x4 x5 x6 x7 x8 : Int) (w : World), Calls Try.prog 24 #[.agg #[.int .i64 x0, .int .i64 x1, .int .i64 x2, .int .i64 x3, .int .i64 x4, .int .i64 x5, .int .i64 x6, .int .i64 x7, .int .i64 x8]] w (fun e w' => ∃ (A : Option Addr) (n c : Nat), e = .returned (.slice A n c) ∧ Has w' w.heap.size (rowCells (f ⟨x0, x1, x2, x3, x4, x5, x6, x7, x8⟩)) [.slice A n c] ∧ Below w.heap.size w w'))
    (hi : ∀ (x0 x1 x2 x3 x4 x5 x6 x7 x8 : Int) (w : World), Calls Try.prog 26 #[.agg #[.int .i64 x0, .int .i64 x1, .int .i64 x2, .int .i64 x3, .int .i64 x4, .int .i64 x5, .int .i64 x6, .int .i64 x7, .int .i64 x8]] w (fun e w' => ∃ (A : Option Addr) (n c : Nat), e = .returned (.slice A n c) ∧ Has w' w.heap.size (rowCells (f ⟨x0, x1, x2, x3, x4, x5, x6, x7, x8⟩)) [.slice A n c] ∧ Below w.heap.size w w'))
    (x0 x1 x2 x3 x4 x5 x6 x7 x8 : Int) (w : World) :
    Calls Try.prog 6 #[.agg #[.int .i64 x0, .int .i64 x1, .int .i64 x2, .int .i64 x3, .int .i64 x4, .int .i64 x5, .int .i64 x6, .int .i64 x7, .int .i64 x8]] w fun e w' => e = .returned (.bool true) ∧ Below w.heap.size w w' := by
 have SP := jd hs
 have IM := jd hi
 clear hs hi
 have S := Sep.nil w w.heap.size
 have c := Below.refl w.heap.size w
 replace S := S.boxAt c.size (w.heap.size) rfl #[.int .i64 x0, .int .i64 x1, .int .i64 x2, .int .i64 x3, .int .i64 x4, .int .i64 x5, .int .i64 x6, .int .i64 x7, .int .i64 x8] 45
 replace c := al c S
 go_enter Try.func6, Try.ntmps6
 obtain ⟨fx0, hfx0⟩ : ∃ q, q = (f ⟨x0, x1, x2, x3, x4, x5, x6, x7, x8⟩) := ⟨_, rfl⟩
 have hfz0 := hf0 ⟨x0, x1, x2, x3, x4, x5, x6, x7, x8⟩
 rw [← hfx0] at hfz0
 have HFX0 := jd hfx0
 clear hfx0
 have f0 := lk S 0 0 rfl rfl
 have f1 := lk S 0 1 rfl rfl
 have f2 := lk S 0 2 rfl rfl
 have f3 := lk S 0 3 rfl rfl
 have f4 := lk S 0 4 rfl rfl
 have f5 := lk S 0 5 rfl rfl
 have f6 := lk S 0 6 rfl rfl
 have f7 := lk S 0 7 rfl rfl
 have f8 := lk S 0 8 rfl rfl
 go_wp2_with fail
 generalize w.alloc (.cells #[.int .i64 x0, .int .i64 x1, .int .i64 x2, .int .i64 x3, .int .i64 x4, .int .i64 x5, .int .i64 x6, .int .i64 x7, .int .i64 x8] 45) = w1 at *
 refine (toEntry_any x0 x1 x2 x3 x4 x5 x6 x7 x8 _).mono ?_
 rintro e w2 ⟨rfl, b⟩
 replace c := c.trans (b.mono c.size)
 replace S := S.keep b
 clear b f0 f1 f2 f3 f4 f5 f6 f7 f8
 go_wp2_with fail
 refine (SP.out x0 x1 x2 x3 x4 x5 x6 x7 x8 _).mono ?_
 rintro e w3 ⟨Aw0, nw0, cw0, rfl, o, b⟩
 obtain ⟨fp_w0, S'⟩ := S.has b o c.size
 replace c := c.trans (b.mono c.size)
 clear S; have S := S'; clear S' o b
 rw [← HFX0.out] at S
 have f9 := lk S 1 0 rfl rfl
 have f10 := lk S 1 1 rfl rfl
 have f11 := lk S 1 2 rfl rfl
 have f12 := lk S 1 3 rfl rfl
 have f13 := lk S 1 4 rfl rfl
 have f14 := lk S 1 5 rfl rfl
 have f15 := lk S 1 6 rfl rfl
 have f16 := lk S 1 7 rfl rfl
 have f17 := lk S 1 8 rfl rfl
 go_wp2_with fail
 refine (toEntry_any x0 x1 x2 x3 x4 x5 x6 x7 x8 _).mono ?_
 rintro e w4 ⟨rfl, b⟩
 replace c := c.trans (b.mono c.size)
 replace S := S.keep b
 clear b f9 f10 f11 f12 f13 f14 f15 f16 f17
 go_wp2_with fail
 refine (IM.out x0 x1 x2 x3 x4 x5 x6 x7 x8 _).mono ?_
 rintro e w5 ⟨Ag0, ng0, cg0, rfl, o, b⟩
 obtain ⟨fp_g0, S'⟩ := S.has b o c.size
 replace c := c.trans (b.mono c.size)
 clear S; have S := S'; clear S' o b
 rw [← HFX0.out] at S
 go_wp2_with fail
 refine (eqI_yes _ _ _ _ _ _ _ _ fx0 _ (S.own_ 0 rfl).rd (S.own_ 1 rfl).rd hfz0).mono ?_
 rintro e w6 ⟨rfl, b⟩
 replace c := c.trans (b.mono c.size)
 replace S := S.keep b
 clear b
 have nr0 : fx0.length ≤ 2097154 := by omega
 go_wp2_with fail
 refine (markI_any _ _ _ fx0 _ _ (S.own_ 0 rfl) (S.nodup_own 0 rfl) hfz0 (1) (by omega) (by omega)).mono ?_
 rintro e w7 ⟨e0, rfl, o, t, mk_g0, en_g0, es_g0⟩
 have b := S.below 0 rfl t c.size
 have S' := S.mark 0 rfl t o
 replace c := c.trans b
 clear S; have S := S'; clear S' o t b
 go_wp2_with fail
 refine (heldI_any _ _ _ e0 _ _ (S.own_ 0 rfl).rd (by omega) (1) (by omega) (by omega) mk_g0).mono ?_
 rintro e w8 ⟨rfl, b⟩
 rw [en_g0]
 have qw8 : ¬ (1 + (fx0.length : Int) < 0) := by omega
 replace c := c.trans (b.mono c.size)
 replace S := S.keep b
 clear b
 have f18 := lk S 2 0 rfl rfl
 have f19 := lk S 2 1 rfl rfl
 have f20 := lk S 2 2 rfl rfl
 have f21 := lk S 2 3 rfl rfl
 have f22 := lk S 2 4 rfl rfl
 have f23 := lk S 2 5 rfl rfl
 have f24 := lk S 2 6 rfl rfl
 have f25 := lk S 2 7 rfl rfl
 have f26 := lk S 2 8 rfl rfl
 go_wp2_with fail
 refine (toEntry_any x0 x1 x2 x3 x4 x5 x6 x7 x8 _).mono ?_
 rintro e w9 ⟨rfl, b⟩
 replace c := c.trans (b.mono c.size)
 replace S := S.keep b
 clear b f18 f19 f20 f21 f22 f23 f24 f25 f26
 go_wp2_with fail
 refine (IM.out x0 x1 x2 x3 x4 x5 x6 x7 x8 _).mono ?_
 rintro e w10 ⟨Ah0, nh0, ch0, rfl, o, b⟩
 obtain ⟨fp_h0, S'⟩ := S.has b o c.size
 replace c := c.trans (b.mono c.size)
 clear S; have S := S'; clear S' o b
 rw [← HFX0.out] at S
 go_wp2_with fail
 refine (eqI_yes _ _ _ _ _ _ _ _ fx0 _ (S.own_ 0 rfl).rd (S.own_ 2 rfl).rd hfz0).mono ?_
 rintro e w11 ⟨rfl, b⟩
 replace c := c.trans (b.mono c.size)
 replace S := S.keep b
 clear b
 go_wp2_with fail
 refine (heldI_any _ _ _ e0 _ _ (S.own_ 1 rfl).rd (by omega) (1) (by omega) (by omega) mk_g0).mono ?_
 rintro e w12 ⟨rfl, b⟩
 rw [en_g0]
 have qw12 : ¬ (1 + (fx0.length : Int) < 0) := by omega
 replace c := c.trans (b.mono c.size)
 replace S := S.keep b
 clear b
 go_wp2
 go_ret
 exact ⟨rfl, c⟩
end Go.Proofs.Ytljnplalnhiidaa

/-
  Exact laws, over open contracts: whatever program function meets the model's contract, the law answers true and writes nothing that was there. Made by program (wip/lawgen.py).
-/
import Derived.Test.YtafbjmhjjbfaeaaKA
import Derived.Test.YtafbjmhjjbfaeaaJobs
import Derived.Deep.RegionHeld3
namespace Go.Proofs.Ytafbjmhjjbfaeaa
set_option maxRecDepth 100000
open Go.RowKit

set_option maxHeartbeats 12800000 in
theorem lawJobsRow (f : JobsM → (List Int))
    (hf0 : ∀ (d0 : JobsM), d0.sz ≤ 1048576 → ((f d0)).length ≤ 1048577)
    (hs : ∀ (xa0_0 : Int) (xa0_1 : Int) (xa0_2 : Int) (xa0_3 : Int) (xa0_4 : Int) (Aa0_5 : Option Addr) (na0_5 ca0_5 : Nat) (d0 : JobsM) (w : World), Rd w w.heap.size (d0.cells) [.int .i64 xa0_0, .int .i64 xa0_1, .int .i64 xa0_2, .int .i64 xa0_3, .int .i64 xa0_4, .slice Aa0_5 na0_5 ca0_5] → d0.sz ≤ 1048576 → Calls Try.prog 26 #[.agg #[.int .i64 xa0_0, .int .i64 xa0_1, .int .i64 xa0_2, .int .i64 xa0_3, .int .i64 xa0_4, .slice Aa0_5 na0_5 ca0_5]] w (fun e w' => ∃ (Ar0_0 : Option Addr) (nr0_0 cr0_0 : Nat), e = .returned (.slice Ar0_0 nr0_0 cr0_0) ∧ Has w' w.heap.size (rowCells ((f d0))) [.slice Ar0_0 nr0_0 cr0_0] ∧ Below w.heap.size w w'))
    (hi : ∀ (xa0_0 : Int) (xa0_1 : Int) (xa0_2 : Int) (xa0_3 : Int) (xa0_4 : Int) (Aa0_5 : Option Addr) (na0_5 ca0_5 : Nat) (d0 : JobsM) (w : World), Rd w w.heap.size (d0.cells) [.int .i64 xa0_0, .int .i64 xa0_1, .int .i64 xa0_2, .int .i64 xa0_3, .int .i64 xa0_4, .slice Aa0_5 na0_5 ca0_5] → d0.sz ≤ 1048576 → Calls Try.prog 28 #[.agg #[.int .i64 xa0_0, .int .i64 xa0_1, .int .i64 xa0_2, .int .i64 xa0_3, .int .i64 xa0_4, .slice Aa0_5 na0_5 ca0_5]] w (fun e w' => ∃ (Ar0_0 : Option Addr) (nr0_0 cr0_0 : Nat), e = .returned (.slice Ar0_0 nr0_0 cr0_0) ∧ Has w' w.heap.size (rowCells ((f d0))) [.slice Ar0_0 nr0_0 cr0_0] ∧ Below w.heap.size w w'))
    (xa0_0 : Int) (xa0_1 : Int) (xa0_2 : Int) (xa0_3 : Int) (xa0_4 : Int) (Aa0_5 : Option Addr) (na0_5 ca0_5 : Nat) (d0 : JobsM) (w : World) (h0 : Rd w w.heap.size (d0.cells) [.int .i64 xa0_0, .int .i64 xa0_1, .int .i64 xa0_2, .int .i64 xa0_3, .int .i64 xa0_4, .slice Aa0_5 na0_5 ca0_5]) :
    Calls Try.prog 7 #[.agg #[.int .i64 xa0_0, .int .i64 xa0_1, .int .i64 xa0_2, .int .i64 xa0_3, .int .i64 xa0_4, .slice Aa0_5 na0_5 ca0_5]] w fun e w' => e = .returned (.bool true) ∧ Below w.heap.size w w' := by
  have SP := Lib.hid hs
  have IM := Lib.hid hi
  clear hs hi
  have S := Sep.nil w w.heap.size
  have c := Below.refl w.heap.size w
  replace S := S.box c.size #[.int .i64 xa0_0, .int .i64 xa0_1, .int .i64 xa0_2, .int .i64 xa0_3, .int .i64 xa0_4, .slice Aa0_5 na0_5 ca0_5] 46
  replace c := c.alloc c.size (.cells #[.int .i64 xa0_0, .int .i64 xa0_1, .int .i64 xa0_2, .int .i64 xa0_3, .int .i64 xa0_4, .slice Aa0_5 na0_5 ca0_5] 46)
  go_enter Try.func7, Try.ntmps7
  go_wp2_with fail
  generalize w.alloc (.cells #[.int .i64 xa0_0, .int .i64 xa0_1, .int .i64 xa0_2, .int .i64 xa0_3, .int .i64 xa0_4, .slice Aa0_5 na0_5 ca0_5] 46) = w1 at *
  refine (szJobs_any _ _ _ _ _ _ d0 _ _ _ (h0.keep c) c.size (by omega) (by omega)).mono ?_
  rintro e w2 ⟨rfl, b⟩
  replace c := c.trans (b.mono c.size)
  replace S := S.keep b
  clear b
  by_cases hzi0 : ((d0.sz : Nat) : Int) ≤ 1048576
  case neg =>
    rw [left, if_neg hzi0]
    go_wp2
    go_ret
    exact ⟨rfl, c⟩
  rw [left, if_pos hzi0]
  have hz0 : d0.sz ≤ 1048576 := by omega
  have qz0 : ¬ ((1048576 : Int) - (d0.sz : Int) < 0) := by omega
  obtain ⟨fx0, hfx0⟩ : ∃ q, q = (f d0) := ⟨_, rfl⟩
  have hfz0 := hf0 d0 hz0
  rw [← hfx0] at hfz0
  have HFX0 := Lib.hid hfx0
  clear hfx0
  have f0 : (w2).cell? ⟨w.heap.size, 0, none⟩ = some (.int .i64 xa0_0) := (S.at_ 0 rfl).cell 0
  have f1 : (w2).cell? ⟨w.heap.size, 1, none⟩ = some (.int .i64 xa0_1) := (S.at_ 0 rfl).cell 1
  have f2 : (w2).cell? ⟨w.heap.size, 2, none⟩ = some (.int .i64 xa0_2) := (S.at_ 0 rfl).cell 2
  have f3 : (w2).cell? ⟨w.heap.size, 3, none⟩ = some (.int .i64 xa0_3) := (S.at_ 0 rfl).cell 3
  have f4 : (w2).cell? ⟨w.heap.size, 4, none⟩ = some (.int .i64 xa0_4) := (S.at_ 0 rfl).cell 4
  have f5 : (w2).cell? ⟨w.heap.size, 5, none⟩ = some (.slice Aa0_5 na0_5 ca0_5) := (S.at_ 0 rfl).cell 5
  go_wp2_with fail
  refine (toJobs_made _ _ _ _ _ _ d0 _ ((h0.keep c).up c.size) hz0).mono ?_
  rintro e w3 ⟨xs0_0, xs0_1, xs0_2, xs0_3, xs0_4, As0_5, ns0_5, cs0_5, rfl, o, b⟩
  obtain ⟨fp_s0, S'⟩ := S.has b o c.size
  replace c := c.trans (b.mono c.size)
  clear S; have S := S'; clear S' o b f0 f1 f2 f3 f4 f5
  go_wp2_with fail
  refine (SP.out _ _ _ _ _ _ _ _ d0 _ ((S.own_ 0 rfl).rd) hz0).mono ?_
  rintro e w4 ⟨Aw0_0, nw0_0, cw0_0, rfl, o, b⟩
  obtain ⟨fp_w0, S'⟩ := S.has b o c.size
  replace c := c.trans (b.mono c.size)
  clear S; have S := S'; clear S' o b
  rw [← HFX0.out] at S
  have f0 : (w4).cell? ⟨w.heap.size, 0, none⟩ = some (.int .i64 xa0_0) := (S.at_ 2 rfl).cell 0
  have f1 : (w4).cell? ⟨w.heap.size, 1, none⟩ = some (.int .i64 xa0_1) := (S.at_ 2 rfl).cell 1
  have f2 : (w4).cell? ⟨w.heap.size, 2, none⟩ = some (.int .i64 xa0_2) := (S.at_ 2 rfl).cell 2
  have f3 : (w4).cell? ⟨w.heap.size, 3, none⟩ = some (.int .i64 xa0_3) := (S.at_ 2 rfl).cell 3
  have f4 : (w4).cell? ⟨w.heap.size, 4, none⟩ = some (.int .i64 xa0_4) := (S.at_ 2 rfl).cell 4
  have f5 : (w4).cell? ⟨w.heap.size, 5, none⟩ = some (.slice Aa0_5 na0_5 ca0_5) := (S.at_ 2 rfl).cell 5
  go_wp2_with fail
  refine (toJobs_made _ _ _ _ _ _ d0 _ ((h0.keep c).up c.size) hz0).mono ?_
  rintro e w5 ⟨xx0_0, xx0_1, xx0_2, xx0_3, xx0_4, Ax0_5, nx0_5, cx0_5, rfl, o, b⟩
  obtain ⟨fp_x0, S'⟩ := S.has b o c.size
  replace c := c.trans (b.mono c.size)
  clear S; have S := S'; clear S' o b f0 f1 f2 f3 f4 f5
  replace S := S.box c.size #[.int .i64 xx0_0, .int .i64 xx0_1, .int .i64 xx0_2, .int .i64 xx0_3, .int .i64 xx0_4, .slice Ax0_5 nx0_5 cx0_5] 51
  replace c := c.alloc c.size (.cells #[.int .i64 xx0_0, .int .i64 xx0_1, .int .i64 xx0_2, .int .i64 xx0_3, .int .i64 xx0_4, .slice Ax0_5 nx0_5 cx0_5] 51)
  go_wp2_with fail
  generalize w5.alloc (.cells #[.int .i64 xx0_0, .int .i64 xx0_1, .int .i64 xx0_2, .int .i64 xx0_3, .int .i64 xx0_4, .slice Ax0_5 nx0_5 cx0_5] 51) = w6 at *
  refine (IM.out _ _ _ _ _ _ _ _ d0 _ ((S.own_ 1 rfl).rd) hz0).mono ?_
  rintro e w7 ⟨Ag0_0, ng0_0, cg0_0, rfl, o, b⟩
  obtain ⟨fp_g0, S'⟩ := S.has b o c.size
  replace c := c.trans (b.mono c.size)
  clear S; have S := S'; clear S' o b
  rw [← HFX0.out] at S
  go_wp2_with fail
  refine (eqI_yes _ _ _ _ _ _ _ _ fx0 _ ((S.own_ 0 rfl).rd) ((S.own_ 3 rfl).rd) hfz0).mono ?_
  rintro e w8 ⟨rfl, b⟩
  replace c := c.trans (b.mono c.size)
  replace S := S.keep b
  clear b
  have f0 : (w8).cell? ⟨w5.heap.size, 0, none⟩ = some (.int .i64 xx0_0) := (S.at_ 1 rfl).cell 0
  have f1 : (w8).cell? ⟨w5.heap.size, 1, none⟩ = some (.int .i64 xx0_1) := (S.at_ 1 rfl).cell 1
  have f2 : (w8).cell? ⟨w5.heap.size, 2, none⟩ = some (.int .i64 xx0_2) := (S.at_ 1 rfl).cell 2
  have f3 : (w8).cell? ⟨w5.heap.size, 3, none⟩ = some (.int .i64 xx0_3) := (S.at_ 1 rfl).cell 3
  have f4 : (w8).cell? ⟨w5.heap.size, 4, none⟩ = some (.int .i64 xx0_4) := (S.at_ 1 rfl).cell 4
  have f5 : (w8).cell? ⟨w5.heap.size, 5, none⟩ = some (.slice Ax0_5 nx0_5 cx0_5) := (S.at_ 1 rfl).cell 5
  have f6 : (w8).cell? ⟨w.heap.size, 0, none⟩ = some (.int .i64 xa0_0) := (S.at_ 5 rfl).cell 0
  have f7 : (w8).cell? ⟨w.heap.size, 1, none⟩ = some (.int .i64 xa0_1) := (S.at_ 5 rfl).cell 1
  have f8 : (w8).cell? ⟨w.heap.size, 2, none⟩ = some (.int .i64 xa0_2) := (S.at_ 5 rfl).cell 2
  have f9 : (w8).cell? ⟨w.heap.size, 3, none⟩ = some (.int .i64 xa0_3) := (S.at_ 5 rfl).cell 3
  have f10 : (w8).cell? ⟨w.heap.size, 4, none⟩ = some (.int .i64 xa0_4) := (S.at_ 5 rfl).cell 4
  have f11 : (w8).cell? ⟨w.heap.size, 5, none⟩ = some (.slice Aa0_5 na0_5 ca0_5) := (S.at_ 5 rfl).cell 5
  have SH := Lib.hid S
  have CH := Lib.hid c
  clear S c
  go_wp2_with fail
  go_region_held3 (fun v => v.cell? ⟨w5.heap.size, 0, none⟩ = some (.int .i64 xx0_0) ∧ v.cell? ⟨w5.heap.size, 1, none⟩ = some (.int .i64 xx0_1) ∧ v.cell? ⟨w5.heap.size, 2, none⟩ = some (.int .i64 xx0_2) ∧ v.cell? ⟨w5.heap.size, 3, none⟩ = some (.int .i64 xx0_3) ∧ v.cell? ⟨w5.heap.size, 4, none⟩ = some (.int .i64 xx0_4) ∧ v.cell? ⟨w5.heap.size, 5, none⟩ = some (.slice Ax0_5 nx0_5 cx0_5) ∧ v.cell? ⟨w.heap.size, 0, none⟩ = some (.int .i64 xa0_0) ∧ v.cell? ⟨w.heap.size, 1, none⟩ = some (.int .i64 xa0_1) ∧ v.cell? ⟨w.heap.size, 2, none⟩ = some (.int .i64 xa0_2) ∧ v.cell? ⟨w.heap.size, 3, none⟩ = some (.int .i64 xa0_3) ∧ v.cell? ⟨w.heap.size, 4, none⟩ = some (.int .i64 xa0_4) ∧ v.cell? ⟨w.heap.size, 5, none⟩ = some (.slice Aa0_5 na0_5 ca0_5)) (go_keep)
    (first
      | (go_at_call 27
         refine (toJobs_made _ _ _ _ _ _ d0 _ ((h0.keep CH.out.drew).up CH.out.size) hz0).mono ?_
         rintro e w9 ⟨xz0_0, xz0_1, xz0_2, xz0_3, xz0_4, Az0_5, nz0_5, cz0_5, rfl, o, b⟩
         have S1 := (SH.out.keep ((Below.refl _ _).drew)).keep b
         have g0 : (w9).cell? ⟨w5.heap.size, 0, none⟩ = some (.int .i64 xx0_0) := (S1.at_ 1 rfl).cell 0
         have g1 : (w9).cell? ⟨w5.heap.size, 1, none⟩ = some (.int .i64 xx0_1) := (S1.at_ 1 rfl).cell 1
         have g2 : (w9).cell? ⟨w5.heap.size, 2, none⟩ = some (.int .i64 xx0_2) := (S1.at_ 1 rfl).cell 2
         have g3 : (w9).cell? ⟨w5.heap.size, 3, none⟩ = some (.int .i64 xx0_3) := (S1.at_ 1 rfl).cell 3
         have g4 : (w9).cell? ⟨w5.heap.size, 4, none⟩ = some (.int .i64 xx0_4) := (S1.at_ 1 rfl).cell 4
         have g5 : (w9).cell? ⟨w5.heap.size, 5, none⟩ = some (.slice Ax0_5 nx0_5 cx0_5) := (S1.at_ 1 rfl).cell 5
         have g6 : (w9).cell? ⟨w.heap.size, 0, none⟩ = some (.int .i64 xa0_0) := (S1.at_ 5 rfl).cell 0
         have g7 : (w9).cell? ⟨w.heap.size, 1, none⟩ = some (.int .i64 xa0_1) := (S1.at_ 5 rfl).cell 1
         have g8 : (w9).cell? ⟨w.heap.size, 2, none⟩ = some (.int .i64 xa0_2) := (S1.at_ 5 rfl).cell 2
         have g9 : (w9).cell? ⟨w.heap.size, 3, none⟩ = some (.int .i64 xa0_3) := (S1.at_ 5 rfl).cell 3
         have g10 : (w9).cell? ⟨w.heap.size, 4, none⟩ = some (.int .i64 xa0_4) := (S1.at_ 5 rfl).cell 4
         have g11 : (w9).cell? ⟨w.heap.size, 5, none⟩ = some (.slice Aa0_5 na0_5 ca0_5) := (S1.at_ 5 rfl).cell 5
         have O1 := Lib.hid o
         have B1 := Lib.hid b
         clear S1 o b)
      | (go_at_call 29
         refine (eqJobs_yes _ _ _ _ _ _ _ _ _ _ _ _ _ _ d0 _ ((((SH.out.keep ((Below.refl _ _).drew)).keep B1.out).own_ 2 rfl).rd) (O1.out.rd) (Nat.le_refl _) (Nat.le_refl _) (by omega)).mono ?_
         rintro e w10 ⟨rfl, b⟩
         have S3 := ((SH.out.keep ((Below.refl _ _).drew)).keep B1.out).keep b
         have r0 : (w10).cell? ⟨w5.heap.size, 0, none⟩ = some (.int .i64 xx0_0) := (S3.at_ 1 rfl).cell 0
         have r1 : (w10).cell? ⟨w5.heap.size, 1, none⟩ = some (.int .i64 xx0_1) := (S3.at_ 1 rfl).cell 1
         have r2 : (w10).cell? ⟨w5.heap.size, 2, none⟩ = some (.int .i64 xx0_2) := (S3.at_ 1 rfl).cell 2
         have r3 : (w10).cell? ⟨w5.heap.size, 3, none⟩ = some (.int .i64 xx0_3) := (S3.at_ 1 rfl).cell 3
         have r4 : (w10).cell? ⟨w5.heap.size, 4, none⟩ = some (.int .i64 xx0_4) := (S3.at_ 1 rfl).cell 4
         have r5 : (w10).cell? ⟨w5.heap.size, 5, none⟩ = some (.slice Ax0_5 nx0_5 cx0_5) := (S3.at_ 1 rfl).cell 5
         have r6 : (w10).cell? ⟨w.heap.size, 0, none⟩ = some (.int .i64 xa0_0) := (S3.at_ 5 rfl).cell 0
         have r7 : (w10).cell? ⟨w.heap.size, 1, none⟩ = some (.int .i64 xa0_1) := (S3.at_ 5 rfl).cell 1
         have r8 : (w10).cell? ⟨w.heap.size, 2, none⟩ = some (.int .i64 xa0_2) := (S3.at_ 5 rfl).cell 2
         have r9 : (w10).cell? ⟨w.heap.size, 3, none⟩ = some (.int .i64 xa0_3) := (S3.at_ 5 rfl).cell 3
         have r10 : (w10).cell? ⟨w.heap.size, 4, none⟩ = some (.int .i64 xa0_4) := (S3.at_ 5 rfl).cell 4
         have r11 : (w10).cell? ⟨w.heap.size, 5, none⟩ = some (.slice Aa0_5 na0_5 ca0_5) := (S3.at_ 5 rfl).cell 5
         have S2 := Lib.hid S3
         have C2 := Lib.hid ((CH.out.drew.trans (B1.out.mono CH.out.size)).trans (b.mono (CH.out.drew.trans (B1.out.mono CH.out.size)).size))
         clear b S3))
  have S := S2.out
  have c := C2.out
  clear SH CH S2 C2 O1 B1 f0 g0 r0 f1 g1 r1 f2 g2 r2 f3 g3 r3 f4 g4 r4 f5 g5 r5 f6 g6 r6 f7 g7 r7 f8 g8 r8 f9 g9 r9 f10 g10 r10 f11 g11 r11
  have f0 : (w10).cell? ⟨w5.heap.size, 0, none⟩ = some (.int .i64 xx0_0) := (S.at_ 1 rfl).cell 0
  have f1 : (w10).cell? ⟨w5.heap.size, 1, none⟩ = some (.int .i64 xx0_1) := (S.at_ 1 rfl).cell 1
  have f2 : (w10).cell? ⟨w5.heap.size, 2, none⟩ = some (.int .i64 xx0_2) := (S.at_ 1 rfl).cell 2
  have f3 : (w10).cell? ⟨w5.heap.size, 3, none⟩ = some (.int .i64 xx0_3) := (S.at_ 1 rfl).cell 3
  have f4 : (w10).cell? ⟨w5.heap.size, 4, none⟩ = some (.int .i64 xx0_4) := (S.at_ 1 rfl).cell 4
  have f5 : (w10).cell? ⟨w5.heap.size, 5, none⟩ = some (.slice Ax0_5 nx0_5 cx0_5) := (S.at_ 1 rfl).cell 5
  go_wp2_with fail
  refine (markJobs_any _ _ _ _ _ _ d0 _ _ (S.own_ 2 rfl) (S.nodup_own 2 rfl) (by omega) (1) (by omega) (by omega)).mono ?_
  rintro e w11 ⟨m0, rfl, o, t, mk_x0, en_x0, es_x0⟩
  have b := S.below 2 rfl t c.size
  have S' := S.mark 2 rfl t o
  replace c := c.trans b
  clear S; have S := S'; clear S' o t b f0 f1 f2 f3 f4 f5
  have nb0 : d0.n ≤ 9437193 := by
    first | omega | exact jobs_n_le _ (by omega)
  have qk : ¬ (1 + (d0.n : Int) < 0) := by omega
  go_wp2_with fail
  refine (eqI_yes _ _ _ _ _ _ _ _ fx0 _ ((S.own_ 0 rfl).rd) ((S.own_ 3 rfl).rd) hfz0).mono ?_
  rintro e w12 ⟨rfl, b⟩
  replace c := c.trans (b.mono c.size)
  replace S := S.keep b
  clear b
  have nr0 : fx0.length ≤ 2097154 := by
    first | omega | exact i_n_le _ (by omega)
  go_wp2_with fail
  refine (markI_any _ _ _ fx0 _ _ (S.own_ 0 rfl) (S.nodup_own 0 rfl) hfz0 (1) (by omega) (by omega)).mono ?_
  rintro e w13 ⟨e0, rfl, o, t, mk_g0, en_g0, es_g0⟩
  have b := S.below 0 rfl t c.size
  have S' := S.mark 0 rfl t o
  replace c := c.trans b
  clear S; have S := S'; clear S' o t b
  go_wp2_with fail
  refine (heldI_any _ _ _ e0 _ _ ((S.own_ 0 rfl).rd) (by omega) (1) (by omega) (by omega) mk_g0).mono ?_
  rintro e w14 ⟨rfl, b⟩
  rw [en_g0]
  have q14 : ¬ (1 + (fx0.length : Int) < 0) := by omega
  replace c := c.trans (b.mono c.size)
  replace S := S.keep b
  clear b
  have f0 : (w14).cell? ⟨w.heap.size, 0, none⟩ = some (.int .i64 xa0_0) := (S.at_ 5 rfl).cell 0
  have f1 : (w14).cell? ⟨w.heap.size, 1, none⟩ = some (.int .i64 xa0_1) := (S.at_ 5 rfl).cell 1
  have f2 : (w14).cell? ⟨w.heap.size, 2, none⟩ = some (.int .i64 xa0_2) := (S.at_ 5 rfl).cell 2
  have f3 : (w14).cell? ⟨w.heap.size, 3, none⟩ = some (.int .i64 xa0_3) := (S.at_ 5 rfl).cell 3
  have f4 : (w14).cell? ⟨w.heap.size, 4, none⟩ = some (.int .i64 xa0_4) := (S.at_ 5 rfl).cell 4
  have f5 : (w14).cell? ⟨w.heap.size, 5, none⟩ = some (.slice Aa0_5 na0_5 ca0_5) := (S.at_ 5 rfl).cell 5
  go_wp2_with fail
  refine (toJobs_made _ _ _ _ _ _ d0 _ ((h0.keep c).up c.size) hz0).mono ?_
  rintro e w15 ⟨xt0_0, xt0_1, xt0_2, xt0_3, xt0_4, At0_5, nt0_5, ct0_5, rfl, o, b⟩
  obtain ⟨fp_t0, S'⟩ := S.has b o c.size
  replace c := c.trans (b.mono c.size)
  clear S; have S := S'; clear S' o b f0 f1 f2 f3 f4 f5
  go_wp2_with fail
  refine (IM.out _ _ _ _ _ _ _ _ d0 _ ((S.own_ 0 rfl).rd) hz0).mono ?_
  rintro e w16 ⟨Ah0_0, nh0_0, ch0_0, rfl, o, b⟩
  obtain ⟨fp_h0, S'⟩ := S.has b o c.size
  replace c := c.trans (b.mono c.size)
  clear S; have S := S'; clear S' o b
  rw [← HFX0.out] at S
  go_wp2_with fail
  refine (eqI_yes _ _ _ _ _ _ _ _ fx0 _ ((S.own_ 0 rfl).rd) ((S.own_ 5 rfl).rd) hfz0).mono ?_
  rintro e w17 ⟨rfl, b⟩
  replace c := c.trans (b.mono c.size)
  replace S := S.keep b
  clear b
  go_wp2_with fail
  refine (heldI_any _ _ _ e0 _ _ ((S.own_ 2 rfl).rd) (by omega) (1) (by omega) (by omega) mk_g0).mono ?_
  rintro e w18 ⟨rfl, b⟩
  rw [en_g0]
  have q18 : ¬ (1 + (fx0.length : Int) < 0) := by omega
  replace c := c.trans (b.mono c.size)
  replace S := S.keep b
  clear b
  go_wp2
  go_ret
  exact ⟨rfl, c⟩

end Go.Proofs.Ytafbjmhjjbfaeaa

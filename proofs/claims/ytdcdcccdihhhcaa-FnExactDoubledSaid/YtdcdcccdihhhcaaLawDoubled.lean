/-
  Exact laws, over open contracts: whatever program function meets the model's contract, the law answers true and writes nothing that was there. Made by program (wip/lawgen.py).
-/
import Derived.Test.YtdcdcccdihhhcaaNet
import Derived.Test.YtdcdcccdihhhcaaKA
import Derived.Deep.RegionHeld3
namespace Go.Proofs.Ytdcdcccdihhhcaa
set_option maxRecDepth 100000
open Go.RowKit

set_option maxHeartbeats 12800000 in
theorem lawDoubled (f : NetM → Int → (NetM) × Bool)
    (hf0 : ∀ (d0 : NetM) (x1 : Int), d0.sz ≤ 1048576 → ((f d0 x1).1).sz ≤ 1048577)
    (hs : ∀ (Aa0_0 : Option Addr) (na0_0 ca0_0 : Nat) (Aa0_1 : Option Addr) (na0_1 ca0_1 : Nat) (d0 : NetM) (x1 : Int) (w : World), Rd w w.heap.size (d0.cells) [.slice Aa0_0 na0_0 ca0_0, .slice Aa0_1 na0_1 ca0_1] → d0.sz ≤ 1048576 → Calls Try.prog 52 #[.agg #[.slice Aa0_0 na0_0 ca0_0, .slice Aa0_1 na0_1 ca0_1], .int .i64 x1] w (fun e w' => ∃ (Ar0_0 : Option Addr) (nr0_0 cr0_0 : Nat) (Ar0_1 : Option Addr) (nr0_1 cr0_1 : Nat), e = .returned (.tuple #[.agg #[.slice Ar0_0 nr0_0 cr0_0, .slice Ar0_1 nr0_1 cr0_1], .bool (f d0 x1).2]) ∧ Has w' w.heap.size (((f d0 x1).1).cells) [.slice Ar0_0 nr0_0 cr0_0, .slice Ar0_1 nr0_1 cr0_1] ∧ Below w.heap.size w w'))
    (hi : ∀ (Aa0_0 : Option Addr) (na0_0 ca0_0 : Nat) (Aa0_1 : Option Addr) (na0_1 ca0_1 : Nat) (d0 : NetM) (x1 : Int) (w : World), Rd w w.heap.size (d0.cells) [.slice Aa0_0 na0_0 ca0_0, .slice Aa0_1 na0_1 ca0_1] → d0.sz ≤ 1048576 → Calls Try.prog 29 #[.agg #[.slice Aa0_0 na0_0 ca0_0, .slice Aa0_1 na0_1 ca0_1], .int .i64 x1] w (fun e w' => ∃ (Ar0_0 : Option Addr) (nr0_0 cr0_0 : Nat) (Ar0_1 : Option Addr) (nr0_1 cr0_1 : Nat), e = .returned (.tuple #[.agg #[.slice Ar0_0 nr0_0 cr0_0, .slice Ar0_1 nr0_1 cr0_1], .bool (f d0 x1).2]) ∧ Has w' w.heap.size (((f d0 x1).1).cells) [.slice Ar0_0 nr0_0 cr0_0, .slice Ar0_1 nr0_1 cr0_1] ∧ Below w.heap.size w w'))
    (Aa0_0 : Option Addr) (na0_0 ca0_0 : Nat) (Aa0_1 : Option Addr) (na0_1 ca0_1 : Nat) (d0 : NetM) (x1 : Int) (w : World) (h0 : Rd w w.heap.size (d0.cells) [.slice Aa0_0 na0_0 ca0_0, .slice Aa0_1 na0_1 ca0_1]) :
    Calls Try.prog 13 #[.agg #[.slice Aa0_0 na0_0 ca0_0, .slice Aa0_1 na0_1 ca0_1], .int .i64 x1] w fun e w' => e = .returned (.bool true) ∧ Below w.heap.size w w' := by
  have SP := Lib.hid hs
  have IM := Lib.hid hi
  clear hs hi
  have S := Sep.nil w w.heap.size
  have c := Below.refl w.heap.size w
  replace S := S.box c.size #[.slice Aa0_0 na0_0 ca0_0, .slice Aa0_1 na0_1 ca0_1] 58
  replace c := c.alloc c.size (.cells #[.slice Aa0_0 na0_0 ca0_0, .slice Aa0_1 na0_1 ca0_1] 58)
  go_enter Try.func13, Try.ntmps13
  go_wp2_with fail
  generalize w.alloc (.cells #[.slice Aa0_0 na0_0 ca0_0, .slice Aa0_1 na0_1 ca0_1] 58) = w1 at *
  refine (szNet_any _ _ d0 _ _ _ (h0.keep c) c.size (by omega) (by omega)).mono ?_
  rintro e w2 ⟨rfl, b⟩
  replace c := c.trans (b.mono c.size)
  replace S := S.keep b
  clear b
  by_cases hzi0 : ((d0.sz : Nat) : Int) ≤ 1048576
  case neg =>
    rw [left, if_neg hzi0]
    go_wp2
    go_ret
    exact ⟨rfl, c⟩
  rw [left, if_pos hzi0]
  have hz0 : d0.sz ≤ 1048576 := by omega
  have qz0 : ¬ ((1048576 : Int) - (d0.sz : Int) < 0) := by omega
  obtain ⟨fx0, hfx0⟩ : ∃ q, q = (f d0 x1).1 := ⟨_, rfl⟩
  have hfz0 := hf0 d0 x1 hz0
  rw [← hfx0] at hfz0
  have HFX0 := Lib.hid hfx0
  clear hfx0
  obtain ⟨fx1, hfx1⟩ : ∃ q, q = (f d0 x1).2 := ⟨_, rfl⟩
  have HFX1 := Lib.hid hfx1
  clear hfx1
  have f0 : (w2).cell? ⟨w.heap.size, 0, none⟩ = some (.slice Aa0_0 na0_0 ca0_0) := (S.at_ 0 rfl).cell 0
  have f1 : (w2).cell? ⟨w.heap.size, 1, none⟩ = some (.slice Aa0_1 na0_1 ca0_1) := (S.at_ 0 rfl).cell 1
  go_wp2_with fail
  refine (toNet_made _ _ d0 _ ((h0.keep c).up c.size) hz0).mono ?_
  rintro e w3 ⟨As0_0, ns0_0, cs0_0, As0_1, ns0_1, cs0_1, rfl, o, b⟩
  obtain ⟨fp_s0, S'⟩ := S.has b o c.size
  replace c := c.trans (b.mono c.size)
  clear S; have S := S'; clear S' o b f0 f1
  go_wp2_with fail
  refine (SP.out _ _ _ _ _ _ d0 _ _ ((S.own_ 0 rfl).rd) hz0).mono ?_
  rintro e w4 ⟨Aw0_0, nw0_0, cw0_0, Aw0_1, nw0_1, cw0_1, rfl, o, b⟩
  obtain ⟨fp_w0, S'⟩ := S.has b o c.size
  replace c := c.trans (b.mono c.size)
  clear S; have S := S'; clear S' o b
  rw [← HFX0.out] at S
  rw [← HFX1.out]
  replace S := S.box c.size #[.slice Aw0_0 nw0_0 cw0_0, .slice Aw0_1 nw0_1 cw0_1] 30
  replace c := c.alloc c.size (.cells #[.slice Aw0_0 nw0_0 cw0_0, .slice Aw0_1 nw0_1 cw0_1] 30)
  have f0 : (w4.alloc (.cells #[.slice Aw0_0 nw0_0 cw0_0, .slice Aw0_1 nw0_1 cw0_1] 30)).cell? ⟨w.heap.size, 0, none⟩ = some (.slice Aa0_0 na0_0 ca0_0) := (S.at_ 3 rfl).cell 0
  have f1 : (w4.alloc (.cells #[.slice Aw0_0 nw0_0 cw0_0, .slice Aw0_1 nw0_1 cw0_1] 30)).cell? ⟨w.heap.size, 1, none⟩ = some (.slice Aa0_1 na0_1 ca0_1) := (S.at_ 3 rfl).cell 1
  go_wp2_with fail
  generalize w4.alloc (.cells #[.slice Aw0_0 nw0_0 cw0_0, .slice Aw0_1 nw0_1 cw0_1] 30) = w5 at *
  refine (toNet_made _ _ d0 _ ((h0.keep c).up c.size) hz0).mono ?_
  rintro e w6 ⟨Ax0_0, nx0_0, cx0_0, Ax0_1, nx0_1, cx0_1, rfl, o, b⟩
  obtain ⟨fp_x0, S'⟩ := S.has b o c.size
  replace c := c.trans (b.mono c.size)
  clear S; have S := S'; clear S' o b f0 f1
  replace S := S.box c.size #[.slice Ax0_0 nx0_0 cx0_0, .slice Ax0_1 nx0_1 cx0_1] 30
  replace c := c.alloc c.size (.cells #[.slice Ax0_0 nx0_0 cx0_0, .slice Ax0_1 nx0_1 cx0_1] 30)
  go_wp2_with fail
  generalize w6.alloc (.cells #[.slice Ax0_0 nx0_0 cx0_0, .slice Ax0_1 nx0_1 cx0_1] 30) = w7 at *
  refine (IM.out _ _ _ _ _ _ d0 _ _ ((S.own_ 1 rfl).rd) hz0).mono ?_
  rintro e w8 ⟨Ag0_0, ng0_0, cg0_0, Ag0_1, ng0_1, cg0_1, rfl, o, b⟩
  obtain ⟨fp_g0, S'⟩ := S.has b o c.size
  replace c := c.trans (b.mono c.size)
  clear S; have S := S'; clear S' o b
  rw [← HFX0.out] at S
  rw [← HFX1.out]
  replace S := S.box c.size #[.slice Ag0_0 ng0_0 cg0_0, .slice Ag0_1 ng0_1 cg0_1] 30
  replace c := c.alloc c.size (.cells #[.slice Ag0_0 ng0_0 cg0_0, .slice Ag0_1 ng0_1 cg0_1] 30)
  have f0 : (w8.alloc (.cells #[.slice Ag0_0 ng0_0 cg0_0, .slice Ag0_1 ng0_1 cg0_1] 30)).cell? ⟨w8.heap.size, 0, none⟩ = some (.slice Ag0_0 ng0_0 cg0_0) := (S.at_ 0 rfl).cell 0
  have f1 : (w8.alloc (.cells #[.slice Ag0_0 ng0_0 cg0_0, .slice Ag0_1 ng0_1 cg0_1] 30)).cell? ⟨w8.heap.size, 1, none⟩ = some (.slice Ag0_1 ng0_1 cg0_1) := (S.at_ 0 rfl).cell 1
  have f2 : (w8.alloc (.cells #[.slice Ag0_0 ng0_0 cg0_0, .slice Ag0_1 ng0_1 cg0_1] 30)).cell? ⟨w4.heap.size, 0, none⟩ = some (.slice Aw0_0 nw0_0 cw0_0) := (S.at_ 4 rfl).cell 0
  have f3 : (w8.alloc (.cells #[.slice Ag0_0 ng0_0 cg0_0, .slice Ag0_1 ng0_1 cg0_1] 30)).cell? ⟨w4.heap.size, 1, none⟩ = some (.slice Aw0_1 nw0_1 cw0_1) := (S.at_ 4 rfl).cell 1
  go_wp2_with fail
  generalize w8.alloc (.cells #[.slice Ag0_0 ng0_0 cg0_0, .slice Ag0_1 ng0_1 cg0_1] 30) = w9 at *
  refine (eqNet_yes _ _ _ _ _ _ fx0 _ ((S.own_ 1 rfl).rd) ((S.own_ 5 rfl).rd) (Nat.le_refl _) (Nat.le_refl _) hfz0).mono ?_
  rintro e w10 ⟨rfl, b⟩
  replace c := c.trans (b.mono c.size)
  replace S := S.keep b
  clear b f0 f1 f2 f3
  have f0 : (w10).cell? ⟨w6.heap.size, 0, none⟩ = some (.slice Ax0_0 nx0_0 cx0_0) := (S.at_ 2 rfl).cell 0
  have f1 : (w10).cell? ⟨w6.heap.size, 1, none⟩ = some (.slice Ax0_1 nx0_1 cx0_1) := (S.at_ 2 rfl).cell 1
  have f2 : (w10).cell? ⟨w.heap.size, 0, none⟩ = some (.slice Aa0_0 na0_0 ca0_0) := (S.at_ 7 rfl).cell 0
  have f3 : (w10).cell? ⟨w.heap.size, 1, none⟩ = some (.slice Aa0_1 na0_1 ca0_1) := (S.at_ 7 rfl).cell 1
  have SH := Lib.hid S
  have CH := Lib.hid c
  clear S c
  go_wp2_with fail
  go_region_held3 (fun v => v.cell? ⟨w6.heap.size, 0, none⟩ = some (.slice Ax0_0 nx0_0 cx0_0) ∧ v.cell? ⟨w6.heap.size, 1, none⟩ = some (.slice Ax0_1 nx0_1 cx0_1) ∧ v.cell? ⟨w.heap.size, 0, none⟩ = some (.slice Aa0_0 na0_0 ca0_0) ∧ v.cell? ⟨w.heap.size, 1, none⟩ = some (.slice Aa0_1 na0_1 ca0_1)) (go_keep)
    (first
      | (go_at_call 42
         refine (toNet_made _ _ d0 _ ((h0.keep CH.out.drew).up CH.out.size) hz0).mono ?_
         rintro e w11 ⟨Az0_0, nz0_0, cz0_0, Az0_1, nz0_1, cz0_1, rfl, o, b⟩
         have S1 := (SH.out.keep ((Below.refl _ _).drew)).keep b
         have g0 : (w11).cell? ⟨w6.heap.size, 0, none⟩ = some (.slice Ax0_0 nx0_0 cx0_0) := (S1.at_ 2 rfl).cell 0
         have g1 : (w11).cell? ⟨w6.heap.size, 1, none⟩ = some (.slice Ax0_1 nx0_1 cx0_1) := (S1.at_ 2 rfl).cell 1
         have g2 : (w11).cell? ⟨w.heap.size, 0, none⟩ = some (.slice Aa0_0 na0_0 ca0_0) := (S1.at_ 7 rfl).cell 0
         have g3 : (w11).cell? ⟨w.heap.size, 1, none⟩ = some (.slice Aa0_1 na0_1 ca0_1) := (S1.at_ 7 rfl).cell 1
         have O1 := Lib.hid o
         have B1 := Lib.hid b
         clear S1 o b)
      | (go_at_call 43
         refine (eqNet_yes _ _ _ _ _ _ d0 _ ((((SH.out.keep ((Below.refl _ _).drew)).keep B1.out).own_ 3 rfl).rd) (O1.out.rd) (Nat.le_refl _) (Nat.le_refl _) (by omega)).mono ?_
         rintro e w12 ⟨rfl, b⟩
         have S3 := ((SH.out.keep ((Below.refl _ _).drew)).keep B1.out).keep b
         have r0 : (w12).cell? ⟨w6.heap.size, 0, none⟩ = some (.slice Ax0_0 nx0_0 cx0_0) := (S3.at_ 2 rfl).cell 0
         have r1 : (w12).cell? ⟨w6.heap.size, 1, none⟩ = some (.slice Ax0_1 nx0_1 cx0_1) := (S3.at_ 2 rfl).cell 1
         have r2 : (w12).cell? ⟨w.heap.size, 0, none⟩ = some (.slice Aa0_0 na0_0 ca0_0) := (S3.at_ 7 rfl).cell 0
         have r3 : (w12).cell? ⟨w.heap.size, 1, none⟩ = some (.slice Aa0_1 na0_1 ca0_1) := (S3.at_ 7 rfl).cell 1
         have S2 := Lib.hid S3
         have C2 := Lib.hid ((CH.out.drew.trans (B1.out.mono CH.out.size)).trans (b.mono (CH.out.drew.trans (B1.out.mono CH.out.size)).size))
         clear b S3))
  have S := S2.out
  have c := C2.out
  clear SH CH S2 C2 O1 B1 f0 g0 r0 f1 g1 r1 f2 g2 r2 f3 g3 r3
  have f0 : (w12).cell? ⟨w6.heap.size, 0, none⟩ = some (.slice Ax0_0 nx0_0 cx0_0) := (S.at_ 2 rfl).cell 0
  have f1 : (w12).cell? ⟨w6.heap.size, 1, none⟩ = some (.slice Ax0_1 nx0_1 cx0_1) := (S.at_ 2 rfl).cell 1
  go_wp2_with fail
  refine (markNet_any _ _ d0 _ _ (S.own_ 3 rfl) (S.nodup_own 3 rfl) (by omega) (1) (by omega) (by omega)).mono ?_
  rintro e w13 ⟨m0, rfl, o, t, mk_x0, en_x0, es_x0⟩
  have b := S.below 3 rfl t c.size
  have S' := S.mark 3 rfl t o
  replace c := c.trans b
  clear S; have S := S'; clear S' o t b f0 f1
  have nb0 : d0.n ≤ 9437193 := by
    first | omega | exact net_n_le _ (by omega)
  have qk : ¬ (1 + (d0.n : Int) < 0) := by omega
  have f0 : (w13).cell? ⟨w8.heap.size, 0, none⟩ = some (.slice Ag0_0 ng0_0 cg0_0) := (S.at_ 0 rfl).cell 0
  have f1 : (w13).cell? ⟨w8.heap.size, 1, none⟩ = some (.slice Ag0_1 ng0_1 cg0_1) := (S.at_ 0 rfl).cell 1
  have f2 : (w13).cell? ⟨w4.heap.size, 0, none⟩ = some (.slice Aw0_0 nw0_0 cw0_0) := (S.at_ 4 rfl).cell 0
  have f3 : (w13).cell? ⟨w4.heap.size, 1, none⟩ = some (.slice Aw0_1 nw0_1 cw0_1) := (S.at_ 4 rfl).cell 1
  go_wp2_with fail
  refine (eqNet_yes _ _ _ _ _ _ fx0 _ ((S.own_ 1 rfl).rd) ((S.own_ 5 rfl).rd) (Nat.le_refl _) (Nat.le_refl _) hfz0).mono ?_
  rintro e w14 ⟨rfl, b⟩
  replace c := c.trans (b.mono c.size)
  replace S := S.keep b
  clear b f0 f1 f2 f3
  have nr0 : fx0.n ≤ 9437193 := by
    first | omega | exact net_n_le _ (by omega)
  have f0 : (w14).cell? ⟨w8.heap.size, 0, none⟩ = some (.slice Ag0_0 ng0_0 cg0_0) := (S.at_ 0 rfl).cell 0
  have f1 : (w14).cell? ⟨w8.heap.size, 1, none⟩ = some (.slice Ag0_1 ng0_1 cg0_1) := (S.at_ 0 rfl).cell 1
  go_wp2_with fail
  refine (markNet_any _ _ fx0 _ _ (S.own_ 1 rfl) (S.nodup_own 1 rfl) hfz0 (1) (by omega) (by omega)).mono ?_
  rintro e w15 ⟨e0, rfl, o, t, mk_g0, en_g0, es_g0⟩
  have b := S.below 1 rfl t c.size
  have S' := S.mark 1 rfl t o
  replace c := c.trans b
  clear S; have S := S'; clear S' o t b f0 f1
  have f0 : (w15).cell? ⟨w8.heap.size, 0, none⟩ = some (.slice Ag0_0 ng0_0 cg0_0) := (S.at_ 0 rfl).cell 0
  have f1 : (w15).cell? ⟨w8.heap.size, 1, none⟩ = some (.slice Ag0_1 ng0_1 cg0_1) := (S.at_ 0 rfl).cell 1
  go_wp2_with fail
  refine (heldNet_any _ _ e0 _ _ ((S.own_ 1 rfl).rd) (Nat.le_refl _) (by omega) (1) (by omega) (by omega) mk_g0).mono ?_
  rintro e w16 ⟨rfl, b⟩
  rw [en_g0]
  have q16 : ¬ (1 + (fx0.n : Int) < 0) := by omega
  replace c := c.trans (b.mono c.size)
  replace S := S.keep b
  clear b f0 f1
  have f0 : (w16).cell? ⟨w.heap.size, 0, none⟩ = some (.slice Aa0_0 na0_0 ca0_0) := (S.at_ 7 rfl).cell 0
  have f1 : (w16).cell? ⟨w.heap.size, 1, none⟩ = some (.slice Aa0_1 na0_1 ca0_1) := (S.at_ 7 rfl).cell 1
  go_wp2_with fail
  refine (toNet_made _ _ d0 _ ((h0.keep c).up c.size) hz0).mono ?_
  rintro e w17 ⟨At0_0, nt0_0, ct0_0, At0_1, nt0_1, ct0_1, rfl, o, b⟩
  obtain ⟨fp_t0, S'⟩ := S.has b o c.size
  replace c := c.trans (b.mono c.size)
  clear S; have S := S'; clear S' o b f0 f1
  go_wp2_with fail
  refine (IM.out _ _ _ _ _ _ d0 _ _ ((S.own_ 0 rfl).rd) hz0).mono ?_
  rintro e w18 ⟨Ah0_0, nh0_0, ch0_0, Ah0_1, nh0_1, ch0_1, rfl, o, b⟩
  obtain ⟨fp_h0, S'⟩ := S.has b o c.size
  replace c := c.trans (b.mono c.size)
  clear S; have S := S'; clear S' o b
  rw [← HFX0.out] at S
  rw [← HFX1.out]
  replace S := S.box c.size #[.slice Ah0_0 nh0_0 ch0_0, .slice Ah0_1 nh0_1 ch0_1] 30
  replace c := c.alloc c.size (.cells #[.slice Ah0_0 nh0_0 ch0_0, .slice Ah0_1 nh0_1 ch0_1] 30)
  have f0 : (w18.alloc (.cells #[.slice Ah0_0 nh0_0 ch0_0, .slice Ah0_1 nh0_1 ch0_1] 30)).cell? ⟨w18.heap.size, 0, none⟩ = some (.slice Ah0_0 nh0_0 ch0_0) := (S.at_ 0 rfl).cell 0
  have f1 : (w18.alloc (.cells #[.slice Ah0_0 nh0_0 ch0_0, .slice Ah0_1 nh0_1 ch0_1] 30)).cell? ⟨w18.heap.size, 1, none⟩ = some (.slice Ah0_1 nh0_1 ch0_1) := (S.at_ 0 rfl).cell 1
  have f2 : (w18.alloc (.cells #[.slice Ah0_0 nh0_0 ch0_0, .slice Ah0_1 nh0_1 ch0_1] 30)).cell? ⟨w4.heap.size, 0, none⟩ = some (.slice Aw0_0 nw0_0 cw0_0) := (S.at_ 7 rfl).cell 0
  have f3 : (w18.alloc (.cells #[.slice Ah0_0 nh0_0 ch0_0, .slice Ah0_1 nh0_1 ch0_1] 30)).cell? ⟨w4.heap.size, 1, none⟩ = some (.slice Aw0_1 nw0_1 cw0_1) := (S.at_ 7 rfl).cell 1
  go_wp2_with fail
  generalize w18.alloc (.cells #[.slice Ah0_0 nh0_0 ch0_0, .slice Ah0_1 nh0_1 ch0_1] 30) = w19 at *
  refine (eqNet_yes _ _ _ _ _ _ fx0 _ ((S.own_ 1 rfl).rd) ((S.own_ 8 rfl).rd) (Nat.le_refl _) (Nat.le_refl _) hfz0).mono ?_
  rintro e w20 ⟨rfl, b⟩
  replace c := c.trans (b.mono c.size)
  replace S := S.keep b
  clear b f0 f1 f2 f3
  have f0 : (w20).cell? ⟨w8.heap.size, 0, none⟩ = some (.slice Ag0_0 ng0_0 cg0_0) := (S.at_ 3 rfl).cell 0
  have f1 : (w20).cell? ⟨w8.heap.size, 1, none⟩ = some (.slice Ag0_1 ng0_1 cg0_1) := (S.at_ 3 rfl).cell 1
  go_wp2_with fail
  refine (heldNet_any _ _ e0 _ _ ((S.own_ 4 rfl).rd) (Nat.le_refl _) (by omega) (1) (by omega) (by omega) mk_g0).mono ?_
  rintro e w21 ⟨rfl, b⟩
  rw [en_g0]
  have q21 : ¬ (1 + (fx0.n : Int) < 0) := by omega
  replace c := c.trans (b.mono c.size)
  replace S := S.keep b
  clear b f0 f1
  go_wp2
  go_ret
  exact ⟨rfl, c⟩

end Go.Proofs.Ytdcdcccdihhhcaa

/-
  Exact laws, over open contracts: whatever program function meets the model's contract, the law answers true and writes nothing that was there. Made by program (wip/lawgen.py).
-/
import Derived.Test.YtafbjmhjjbfaeaaKA
import Derived.Test.YtafbjmhjjbfaeaaFeed
import Derived.Deep.RegionHeld3
namespace Go.Proofs.Ytafbjmhjjbfaeaa
set_option maxRecDepth 100000
open Go.RowKit

set_option maxHeartbeats 12800000 in
theorem lawFeedOk (f : FeedM → Bool)
    (hs : ∀ (xa0_0 : Int) (xa0_1 : Int) (Aa0_2 : Option Addr) (na0_2 ca0_2 : Nat) (d0 : FeedM) (w : World), Rd w w.heap.size (d0.cells) [.int .i64 xa0_0, .int .i64 xa0_1, .slice Aa0_2 na0_2 ca0_2] → d0.sz ≤ 1048576 → Calls Try.prog 18 #[.agg #[.int .i64 xa0_0, .int .i64 xa0_1, .slice Aa0_2 na0_2 ca0_2]] w (fun e w' => e = .returned (.bool (f d0)) ∧ Below w.heap.size w w'))
    (hi : ∀ (xa0_0 : Int) (xa0_1 : Int) (Aa0_2 : Option Addr) (na0_2 ca0_2 : Nat) (d0 : FeedM) (w : World), Rd w w.heap.size (d0.cells) [.int .i64 xa0_0, .int .i64 xa0_1, .slice Aa0_2 na0_2 ca0_2] → d0.sz ≤ 1048576 → Calls Try.prog 20 #[.agg #[.int .i64 xa0_0, .int .i64 xa0_1, .slice Aa0_2 na0_2 ca0_2]] w (fun e w' => e = .returned (.bool (f d0)) ∧ Below w.heap.size w w'))
    (xa0_0 : Int) (xa0_1 : Int) (Aa0_2 : Option Addr) (na0_2 ca0_2 : Nat) (d0 : FeedM) (w : World) (h0 : Rd w w.heap.size (d0.cells) [.int .i64 xa0_0, .int .i64 xa0_1, .slice Aa0_2 na0_2 ca0_2]) :
    Calls Try.prog 5 #[.agg #[.int .i64 xa0_0, .int .i64 xa0_1, .slice Aa0_2 na0_2 ca0_2]] w fun e w' => e = .returned (.bool true) ∧ Below w.heap.size w w' := by
  have SP := Lib.hid hs
  have IM := Lib.hid hi
  clear hs hi
  have S := Sep.nil w w.heap.size
  have c := Below.refl w.heap.size w
  replace S := S.box c.size #[.int .i64 xa0_0, .int .i64 xa0_1, .slice Aa0_2 na0_2 ca0_2] 33
  replace c := c.alloc c.size (.cells #[.int .i64 xa0_0, .int .i64 xa0_1, .slice Aa0_2 na0_2 ca0_2] 33)
  go_enter Try.func5, Try.ntmps5
  go_wp2_with fail
  generalize w.alloc (.cells #[.int .i64 xa0_0, .int .i64 xa0_1, .slice Aa0_2 na0_2 ca0_2] 33) = w1 at *
  refine (szFeed_any _ _ _ d0 _ _ _ (h0.keep c) c.size (by omega) (by omega)).mono ?_
  rintro e w2 ⟨rfl, b⟩
  replace c := c.trans (b.mono c.size)
  replace S := S.keep b
  clear b
  by_cases hzi0 : ((d0.sz : Nat) : Int) ≤ 1048576
  case neg =>
    rw [left, if_neg hzi0]
    go_wp2
    go_ret
    exact ⟨rfl, c⟩
  rw [left, if_pos hzi0]
  have hz0 : d0.sz ≤ 1048576 := by omega
  have qz0 : ¬ ((1048576 : Int) - (d0.sz : Int) < 0) := by omega
  obtain ⟨fx0, hfx0⟩ : ∃ q, q = (f d0) := ⟨_, rfl⟩
  have HFX0 := Lib.hid hfx0
  clear hfx0
  have f0 : (w2).cell? ⟨w.heap.size, 0, none⟩ = some (.int .i64 xa0_0) := (S.at_ 0 rfl).cell 0
  have f1 : (w2).cell? ⟨w.heap.size, 1, none⟩ = some (.int .i64 xa0_1) := (S.at_ 0 rfl).cell 1
  have f2 : (w2).cell? ⟨w.heap.size, 2, none⟩ = some (.slice Aa0_2 na0_2 ca0_2) := (S.at_ 0 rfl).cell 2
  go_wp2_with fail
  refine (toFeed_made _ _ _ d0 _ ((h0.keep c).up c.size) hz0).mono ?_
  rintro e w3 ⟨xs0_0, xs0_1, As0_2, ns0_2, cs0_2, rfl, o, b⟩
  obtain ⟨fp_s0, S'⟩ := S.has b o c.size
  replace c := c.trans (b.mono c.size)
  clear S; have S := S'; clear S' o b f0 f1 f2
  go_wp2_with fail
  refine (SP.out _ _ _ _ _ d0 _ ((S.own_ 0 rfl).rd) hz0).mono ?_
  rintro e w4 ⟨rfl, b⟩
  replace c := c.trans (b.mono c.size)
  replace S := S.keep b
  clear b
  rw [← HFX0.out]
  have f0 : (w4).cell? ⟨w.heap.size, 0, none⟩ = some (.int .i64 xa0_0) := (S.at_ 1 rfl).cell 0
  have f1 : (w4).cell? ⟨w.heap.size, 1, none⟩ = some (.int .i64 xa0_1) := (S.at_ 1 rfl).cell 1
  have f2 : (w4).cell? ⟨w.heap.size, 2, none⟩ = some (.slice Aa0_2 na0_2 ca0_2) := (S.at_ 1 rfl).cell 2
  go_wp2_with fail
  refine (toFeed_made _ _ _ d0 _ ((h0.keep c).up c.size) hz0).mono ?_
  rintro e w5 ⟨xx0_0, xx0_1, Ax0_2, nx0_2, cx0_2, rfl, o, b⟩
  obtain ⟨fp_x0, S'⟩ := S.has b o c.size
  replace c := c.trans (b.mono c.size)
  clear S; have S := S'; clear S' o b f0 f1 f2
  replace S := S.box c.size #[.int .i64 xx0_0, .int .i64 xx0_1, .slice Ax0_2 nx0_2 cx0_2] 38
  replace c := c.alloc c.size (.cells #[.int .i64 xx0_0, .int .i64 xx0_1, .slice Ax0_2 nx0_2 cx0_2] 38)
  go_wp2_with fail
  generalize w5.alloc (.cells #[.int .i64 xx0_0, .int .i64 xx0_1, .slice Ax0_2 nx0_2 cx0_2] 38) = w6 at *
  refine (IM.out _ _ _ _ _ d0 _ ((S.own_ 1 rfl).rd) hz0).mono ?_
  rintro e w7 ⟨rfl, b⟩
  replace c := c.trans (b.mono c.size)
  replace S := S.keep b
  clear b
  rw [← HFX0.out]
  have f0 : (w7).cell? ⟨w5.heap.size, 0, none⟩ = some (.int .i64 xx0_0) := (S.at_ 0 rfl).cell 0
  have f1 : (w7).cell? ⟨w5.heap.size, 1, none⟩ = some (.int .i64 xx0_1) := (S.at_ 0 rfl).cell 1
  have f2 : (w7).cell? ⟨w5.heap.size, 2, none⟩ = some (.slice Ax0_2 nx0_2 cx0_2) := (S.at_ 0 rfl).cell 2
  have f3 : (w7).cell? ⟨w.heap.size, 0, none⟩ = some (.int .i64 xa0_0) := (S.at_ 3 rfl).cell 0
  have f4 : (w7).cell? ⟨w.heap.size, 1, none⟩ = some (.int .i64 xa0_1) := (S.at_ 3 rfl).cell 1
  have f5 : (w7).cell? ⟨w.heap.size, 2, none⟩ = some (.slice Aa0_2 na0_2 ca0_2) := (S.at_ 3 rfl).cell 2
  have SH := Lib.hid S
  have CH := Lib.hid c
  clear S c
  go_wp2_with fail
  go_region_held3 (fun v => v.cell? ⟨w5.heap.size, 0, none⟩ = some (.int .i64 xx0_0) ∧ v.cell? ⟨w5.heap.size, 1, none⟩ = some (.int .i64 xx0_1) ∧ v.cell? ⟨w5.heap.size, 2, none⟩ = some (.slice Ax0_2 nx0_2 cx0_2) ∧ v.cell? ⟨w.heap.size, 0, none⟩ = some (.int .i64 xa0_0) ∧ v.cell? ⟨w.heap.size, 1, none⟩ = some (.int .i64 xa0_1) ∧ v.cell? ⟨w.heap.size, 2, none⟩ = some (.slice Aa0_2 na0_2 ca0_2)) (go_keep)
    (first
      | (go_at_call 19
         refine (toFeed_made _ _ _ d0 _ ((h0.keep CH.out.drew).up CH.out.size) hz0).mono ?_
         rintro e w8 ⟨xz0_0, xz0_1, Az0_2, nz0_2, cz0_2, rfl, o, b⟩
         have S1 := (SH.out.keep ((Below.refl _ _).drew)).keep b
         have g0 : (w8).cell? ⟨w5.heap.size, 0, none⟩ = some (.int .i64 xx0_0) := (S1.at_ 0 rfl).cell 0
         have g1 : (w8).cell? ⟨w5.heap.size, 1, none⟩ = some (.int .i64 xx0_1) := (S1.at_ 0 rfl).cell 1
         have g2 : (w8).cell? ⟨w5.heap.size, 2, none⟩ = some (.slice Ax0_2 nx0_2 cx0_2) := (S1.at_ 0 rfl).cell 2
         have g3 : (w8).cell? ⟨w.heap.size, 0, none⟩ = some (.int .i64 xa0_0) := (S1.at_ 3 rfl).cell 0
         have g4 : (w8).cell? ⟨w.heap.size, 1, none⟩ = some (.int .i64 xa0_1) := (S1.at_ 3 rfl).cell 1
         have g5 : (w8).cell? ⟨w.heap.size, 2, none⟩ = some (.slice Aa0_2 na0_2 ca0_2) := (S1.at_ 3 rfl).cell 2
         have O1 := Lib.hid o
         have B1 := Lib.hid b
         clear S1 o b)
      | (go_at_call 21
         refine (eqFeed_yes _ _ _ _ _ _ _ _ d0 _ ((((SH.out.keep ((Below.refl _ _).drew)).keep B1.out).own_ 1 rfl).rd) (O1.out.rd) (Nat.le_refl _) (Nat.le_refl _) (by omega)).mono ?_
         rintro e w9 ⟨rfl, b⟩
         have S3 := ((SH.out.keep ((Below.refl _ _).drew)).keep B1.out).keep b
         have r0 : (w9).cell? ⟨w5.heap.size, 0, none⟩ = some (.int .i64 xx0_0) := (S3.at_ 0 rfl).cell 0
         have r1 : (w9).cell? ⟨w5.heap.size, 1, none⟩ = some (.int .i64 xx0_1) := (S3.at_ 0 rfl).cell 1
         have r2 : (w9).cell? ⟨w5.heap.size, 2, none⟩ = some (.slice Ax0_2 nx0_2 cx0_2) := (S3.at_ 0 rfl).cell 2
         have r3 : (w9).cell? ⟨w.heap.size, 0, none⟩ = some (.int .i64 xa0_0) := (S3.at_ 3 rfl).cell 0
         have r4 : (w9).cell? ⟨w.heap.size, 1, none⟩ = some (.int .i64 xa0_1) := (S3.at_ 3 rfl).cell 1
         have r5 : (w9).cell? ⟨w.heap.size, 2, none⟩ = some (.slice Aa0_2 na0_2 ca0_2) := (S3.at_ 3 rfl).cell 2
         have S2 := Lib.hid S3
         have C2 := Lib.hid ((CH.out.drew.trans (B1.out.mono CH.out.size)).trans (b.mono (CH.out.drew.trans (B1.out.mono CH.out.size)).size))
         clear b S3))
  have S := S2.out
  have c := C2.out
  clear SH CH S2 C2 O1 B1 f0 g0 r0 f1 g1 r1 f2 g2 r2 f3 g3 r3 f4 g4 r4 f5 g5 r5
  go_wp2
  go_ret
  exact ⟨rfl, c⟩

end Go.Proofs.Ytafbjmhjjbfaeaa

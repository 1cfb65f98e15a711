/-
  Exact laws, over open contracts: whatever program function meets the model's contract, the law answers true and writes nothing that was there. Made by program (wip/lawgen.py).
-/
import Derived.Test.YtnjfdnjakogpmaaBook
import Derived.Test.YtnjfdnjakogpmaaKA
import Derived.Deep.RegionHeld3
namespace Go.Proofs.Ytnjfdnjakogpmaa
set_option maxRecDepth 100000
open Go.RowKit

set_option maxHeartbeats 12800000 in
theorem lawEntryAt (f : BookM → Int → (EntM) × Bool)
    (hs : ∀ (xa0_0 : Int) (xa0_1 : Int) (Aa0_2 : Option Addr) (na0_2 ca0_2 : Nat) (d0 : BookM) (x1 : Int) (w : World), Rd w w.heap.size (d0.cells) [.int .i64 xa0_0, .int .i64 xa0_1, .slice Aa0_2 na0_2 ca0_2] → d0.sz ≤ 1048576 → Calls Try.prog 22 #[.agg #[.int .i64 xa0_0, .int .i64 xa0_1, .slice Aa0_2 na0_2 ca0_2], .int .i64 x1] w (fun e w' => e = .returned (.tuple #[.agg #[.int .i64 (f d0 x1).1.idx, .int .i64 (f d0 x1).1.tm, .int .i64 (f d0 x1).1.cl, .int .i64 (f d0 x1).1.sq, .int .i64 (f d0 x1).1.kd, .int .i64 (f d0 x1).1.oa, .int .i64 (f d0 x1).1.ob, .int .i64 (f d0 x1).1.oc, .int .i64 (f d0 x1).1.od], .bool (f d0 x1).2]) ∧ Below w.heap.size w w'))
    (hi : ∀ (xa0_0 : Int) (xa0_1 : Int) (Aa0_2 : Option Addr) (na0_2 ca0_2 : Nat) (d0 : BookM) (x1 : Int) (w : World), Rd w w.heap.size (d0.cells) [.int .i64 xa0_0, .int .i64 xa0_1, .slice Aa0_2 na0_2 ca0_2] → d0.sz ≤ 1048576 → Calls Try.prog 23 #[.agg #[.int .i64 xa0_0, .int .i64 xa0_1, .slice Aa0_2 na0_2 ca0_2], .int .i64 x1] w (fun e w' => e = .returned (.tuple #[.agg #[.int .i64 (f d0 x1).1.idx, .int .i64 (f d0 x1).1.tm, .int .i64 (f d0 x1).1.cl, .int .i64 (f d0 x1).1.sq, .int .i64 (f d0 x1).1.kd, .int .i64 (f d0 x1).1.oa, .int .i64 (f d0 x1).1.ob, .int .i64 (f d0 x1).1.oc, .int .i64 (f d0 x1).1.od], .bool (f d0 x1).2]) ∧ Below w.heap.size w w'))
    (xa0_0 : Int) (xa0_1 : Int) (Aa0_2 : Option Addr) (na0_2 ca0_2 : Nat) (d0 : BookM) (x1 : Int) (w : World) (h0 : Rd w w.heap.size (d0.cells) [.int .i64 xa0_0, .int .i64 xa0_1, .slice Aa0_2 na0_2 ca0_2]) :
    Calls Try.prog 6 #[.agg #[.int .i64 xa0_0, .int .i64 xa0_1, .slice Aa0_2 na0_2 ca0_2], .int .i64 x1] w fun e w' => e = .returned (.bool true) ∧ Below w.heap.size w w' := by
  have SP := Lib.hid hs
  have IM := Lib.hid hi
  clear hs hi
  have S := Sep.nil w w.heap.size
  have c := Below.refl w.heap.size w
  replace S := S.box c.size #[.int .i64 xa0_0, .int .i64 xa0_1, .slice Aa0_2 na0_2 ca0_2] 24
  replace c := c.alloc c.size (.cells #[.int .i64 xa0_0, .int .i64 xa0_1, .slice Aa0_2 na0_2 ca0_2] 24)
  go_enter Try.func6, Try.ntmps6
  go_wp2_with fail
  generalize w.alloc (.cells #[.int .i64 xa0_0, .int .i64 xa0_1, .slice Aa0_2 na0_2 ca0_2] 24) = w1 at *
  refine (szBook_any _ _ _ d0 _ _ _ (h0.keep c) c.size (by omega) (by omega)).mono ?_
  rintro e w2 ⟨rfl, b⟩
  replace c := c.trans (b.mono c.size)
  replace S := S.keep b
  clear b
  by_cases hzi0 : ((d0.sz : Nat) : Int) ≤ 1048576
  case neg =>
    rw [left, if_neg hzi0]
    go_wp2
    go_ret
    exact ⟨rfl, c⟩
  rw [left, if_pos hzi0]
  have hz0 : d0.sz ≤ 1048576 := by omega
  have qz0 : ¬ ((1048576 : Int) - (d0.sz : Int) < 0) := by omega
  obtain ⟨fx0_0, hfx0_0⟩ : ∃ q, q = (f d0 x1).1.idx := ⟨_, rfl⟩
  have HFX0_0 := Lib.hid hfx0_0
  clear hfx0_0
  obtain ⟨fx0_1, hfx0_1⟩ : ∃ q, q = (f d0 x1).1.tm := ⟨_, rfl⟩
  have HFX0_1 := Lib.hid hfx0_1
  clear hfx0_1
  obtain ⟨fx0_2, hfx0_2⟩ : ∃ q, q = (f d0 x1).1.cl := ⟨_, rfl⟩
  have HFX0_2 := Lib.hid hfx0_2
  clear hfx0_2
  obtain ⟨fx0_3, hfx0_3⟩ : ∃ q, q = (f d0 x1).1.sq := ⟨_, rfl⟩
  have HFX0_3 := Lib.hid hfx0_3
  clear hfx0_3
  obtain ⟨fx0_4, hfx0_4⟩ : ∃ q, q = (f d0 x1).1.kd := ⟨_, rfl⟩
  have HFX0_4 := Lib.hid hfx0_4
  clear hfx0_4
  obtain ⟨fx0_5, hfx0_5⟩ : ∃ q, q = (f d0 x1).1.oa := ⟨_, rfl⟩
  have HFX0_5 := Lib.hid hfx0_5
  clear hfx0_5
  obtain ⟨fx0_6, hfx0_6⟩ : ∃ q, q = (f d0 x1).1.ob := ⟨_, rfl⟩
  have HFX0_6 := Lib.hid hfx0_6
  clear hfx0_6
  obtain ⟨fx0_7, hfx0_7⟩ : ∃ q, q = (f d0 x1).1.oc := ⟨_, rfl⟩
  have HFX0_7 := Lib.hid hfx0_7
  clear hfx0_7
  obtain ⟨fx0_8, hfx0_8⟩ : ∃ q, q = (f d0 x1).1.od := ⟨_, rfl⟩
  have HFX0_8 := Lib.hid hfx0_8
  clear hfx0_8
  obtain ⟨fx1, hfx1⟩ : ∃ q, q = (f d0 x1).2 := ⟨_, rfl⟩
  have HFX1 := Lib.hid hfx1
  clear hfx1
  have f0 : (w2).cell? ⟨w.heap.size, 0, none⟩ = some (.int .i64 xa0_0) := (S.at_ 0 rfl).cell 0
  have f1 : (w2).cell? ⟨w.heap.size, 1, none⟩ = some (.int .i64 xa0_1) := (S.at_ 0 rfl).cell 1
  have f2 : (w2).cell? ⟨w.heap.size, 2, none⟩ = some (.slice Aa0_2 na0_2 ca0_2) := (S.at_ 0 rfl).cell 2
  go_wp2_with fail
  refine (toBook_made _ _ _ d0 _ ((h0.keep c).up c.size) hz0).mono ?_
  rintro e w3 ⟨xs0_0, xs0_1, As0_2, ns0_2, cs0_2, rfl, o, b⟩
  obtain ⟨fp_s0, S'⟩ := S.has b o c.size
  replace c := c.trans (b.mono c.size)
  clear S; have S := S'; clear S' o b f0 f1 f2
  go_wp2_with fail
  refine (SP.out _ _ _ _ _ d0 _ _ ((S.own_ 0 rfl).rd) hz0).mono ?_
  rintro e w4 ⟨rfl, b⟩
  replace c := c.trans (b.mono c.size)
  replace S := S.keep b
  clear b
  rw [← HFX0_0.out, ← HFX0_1.out, ← HFX0_2.out, ← HFX0_3.out, ← HFX0_4.out, ← HFX0_5.out, ← HFX0_6.out, ← HFX0_7.out, ← HFX0_8.out]
  rw [← HFX1.out]
  replace S := S.box c.size #[.int .i64 fx0_0, .int .i64 fx0_1, .int .i64 fx0_2, .int .i64 fx0_3, .int .i64 fx0_4, .int .i64 fx0_5, .int .i64 fx0_6, .int .i64 fx0_7, .int .i64 fx0_8] 37
  replace c := c.alloc c.size (.cells #[.int .i64 fx0_0, .int .i64 fx0_1, .int .i64 fx0_2, .int .i64 fx0_3, .int .i64 fx0_4, .int .i64 fx0_5, .int .i64 fx0_6, .int .i64 fx0_7, .int .i64 fx0_8] 37)
  have f0 : (w4.alloc (.cells #[.int .i64 fx0_0, .int .i64 fx0_1, .int .i64 fx0_2, .int .i64 fx0_3, .int .i64 fx0_4, .int .i64 fx0_5, .int .i64 fx0_6, .int .i64 fx0_7, .int .i64 fx0_8] 37)).cell? ⟨w.heap.size, 0, none⟩ = some (.int .i64 xa0_0) := (S.at_ 2 rfl).cell 0
  have f1 : (w4.alloc (.cells #[.int .i64 fx0_0, .int .i64 fx0_1, .int .i64 fx0_2, .int .i64 fx0_3, .int .i64 fx0_4, .int .i64 fx0_5, .int .i64 fx0_6, .int .i64 fx0_7, .int .i64 fx0_8] 37)).cell? ⟨w.heap.size, 1, none⟩ = some (.int .i64 xa0_1) := (S.at_ 2 rfl).cell 1
  have f2 : (w4.alloc (.cells #[.int .i64 fx0_0, .int .i64 fx0_1, .int .i64 fx0_2, .int .i64 fx0_3, .int .i64 fx0_4, .int .i64 fx0_5, .int .i64 fx0_6, .int .i64 fx0_7, .int .i64 fx0_8] 37)).cell? ⟨w.heap.size, 2, none⟩ = some (.slice Aa0_2 na0_2 ca0_2) := (S.at_ 2 rfl).cell 2
  go_wp2_with fail
  generalize w4.alloc (.cells #[.int .i64 fx0_0, .int .i64 fx0_1, .int .i64 fx0_2, .int .i64 fx0_3, .int .i64 fx0_4, .int .i64 fx0_5, .int .i64 fx0_6, .int .i64 fx0_7, .int .i64 fx0_8] 37) = w5 at *
  refine (toBook_made _ _ _ d0 _ ((h0.keep c).up c.size) hz0).mono ?_
  rintro e w6 ⟨xx0_0, xx0_1, Ax0_2, nx0_2, cx0_2, rfl, o, b⟩
  obtain ⟨fp_x0, S'⟩ := S.has b o c.size
  replace c := c.trans (b.mono c.size)
  clear S; have S := S'; clear S' o b f0 f1 f2
  replace S := S.box c.size #[.int .i64 xx0_0, .int .i64 xx0_1, .slice Ax0_2 nx0_2 cx0_2] 29
  replace c := c.alloc c.size (.cells #[.int .i64 xx0_0, .int .i64 xx0_1, .slice Ax0_2 nx0_2 cx0_2] 29)
  go_wp2_with fail
  generalize w6.alloc (.cells #[.int .i64 xx0_0, .int .i64 xx0_1, .slice Ax0_2 nx0_2 cx0_2] 29) = w7 at *
  refine (IM.out _ _ _ _ _ d0 _ _ ((S.own_ 1 rfl).rd) hz0).mono ?_
  rintro e w8 ⟨rfl, b⟩
  replace c := c.trans (b.mono c.size)
  replace S := S.keep b
  clear b
  rw [← HFX0_0.out, ← HFX0_1.out, ← HFX0_2.out, ← HFX0_3.out, ← HFX0_4.out, ← HFX0_5.out, ← HFX0_6.out, ← HFX0_7.out, ← HFX0_8.out]
  rw [← HFX1.out]
  replace S := S.box c.size #[.int .i64 fx0_0, .int .i64 fx0_1, .int .i64 fx0_2, .int .i64 fx0_3, .int .i64 fx0_4, .int .i64 fx0_5, .int .i64 fx0_6, .int .i64 fx0_7, .int .i64 fx0_8] 37
  replace c := c.alloc c.size (.cells #[.int .i64 fx0_0, .int .i64 fx0_1, .int .i64 fx0_2, .int .i64 fx0_3, .int .i64 fx0_4, .int .i64 fx0_5, .int .i64 fx0_6, .int .i64 fx0_7, .int .i64 fx0_8] 37)
  have f0 : (w8.alloc (.cells #[.int .i64 fx0_0, .int .i64 fx0_1, .int .i64 fx0_2, .int .i64 fx0_3, .int .i64 fx0_4, .int .i64 fx0_5, .int .i64 fx0_6, .int .i64 fx0_7, .int .i64 fx0_8] 37)).cell? ⟨w8.heap.size, 0, none⟩ = some (.int .i64 fx0_0) := (S.at_ 0 rfl).cell 0
  have f1 : (w8.alloc (.cells #[.int .i64 fx0_0, .int .i64 fx0_1, .int .i64 fx0_2, .int .i64 fx0_3, .int .i64 fx0_4, .int .i64 fx0_5, .int .i64 fx0_6, .int .i64 fx0_7, .int .i64 fx0_8] 37)).cell? ⟨w8.heap.size, 1, none⟩ = some (.int .i64 fx0_1) := (S.at_ 0 rfl).cell 1
  have f2 : (w8.alloc (.cells #[.int .i64 fx0_0, .int .i64 fx0_1, .int .i64 fx0_2, .int .i64 fx0_3, .int .i64 fx0_4, .int .i64 fx0_5, .int .i64 fx0_6, .int .i64 fx0_7, .int .i64 fx0_8] 37)).cell? ⟨w8.heap.size, 2, none⟩ = some (.int .i64 fx0_2) := (S.at_ 0 rfl).cell 2
  have f3 : (w8.alloc (.cells #[.int .i64 fx0_0, .int .i64 fx0_1, .int .i64 fx0_2, .int .i64 fx0_3, .int .i64 fx0_4, .int .i64 fx0_5, .int .i64 fx0_6, .int .i64 fx0_7, .int .i64 fx0_8] 37)).cell? ⟨w8.heap.size, 3, none⟩ = some (.int .i64 fx0_3) := (S.at_ 0 rfl).cell 3
  have f4 : (w8.alloc (.cells #[.int .i64 fx0_0, .int .i64 fx0_1, .int .i64 fx0_2, .int .i64 fx0_3, .int .i64 fx0_4, .int .i64 fx0_5, .int .i64 fx0_6, .int .i64 fx0_7, .int .i64 fx0_8] 37)).cell? ⟨w8.heap.size, 4, none⟩ = some (.int .i64 fx0_4) := (S.at_ 0 rfl).cell 4
  have f5 : (w8.alloc (.cells #[.int .i64 fx0_0, .int .i64 fx0_1, .int .i64 fx0_2, .int .i64 fx0_3, .int .i64 fx0_4, .int .i64 fx0_5, .int .i64 fx0_6, .int .i64 fx0_7, .int .i64 fx0_8] 37)).cell? ⟨w8.heap.size, 5, none⟩ = some (.int .i64 fx0_5) := (S.at_ 0 rfl).cell 5
  have f6 : (w8.alloc (.cells #[.int .i64 fx0_0, .int .i64 fx0_1, .int .i64 fx0_2, .int .i64 fx0_3, .int .i64 fx0_4, .int .i64 fx0_5, .int .i64 fx0_6, .int .i64 fx0_7, .int .i64 fx0_8] 37)).cell? ⟨w8.heap.size, 6, none⟩ = some (.int .i64 fx0_6) := (S.at_ 0 rfl).cell 6
  have f7 : (w8.alloc (.cells #[.int .i64 fx0_0, .int .i64 fx0_1, .int .i64 fx0_2, .int .i64 fx0_3, .int .i64 fx0_4, .int .i64 fx0_5, .int .i64 fx0_6, .int .i64 fx0_7, .int .i64 fx0_8] 37)).cell? ⟨w8.heap.size, 7, none⟩ = some (.int .i64 fx0_7) := (S.at_ 0 rfl).cell 7
  have f8 : (w8.alloc (.cells #[.int .i64 fx0_0, .int .i64 fx0_1, .int .i64 fx0_2, .int .i64 fx0_3, .int .i64 fx0_4, .int .i64 fx0_5, .int .i64 fx0_6, .int .i64 fx0_7, .int .i64 fx0_8] 37)).cell? ⟨w8.heap.size, 8, none⟩ = some (.int .i64 fx0_8) := (S.at_ 0 rfl).cell 8
  have f9 : (w8.alloc (.cells #[.int .i64 fx0_0, .int .i64 fx0_1, .int .i64 fx0_2, .int .i64 fx0_3, .int .i64 fx0_4, .int .i64 fx0_5, .int .i64 fx0_6, .int .i64 fx0_7, .int .i64 fx0_8] 37)).cell? ⟨w4.heap.size, 0, none⟩ = some (.int .i64 fx0_0) := (S.at_ 3 rfl).cell 0
  have f10 : (w8.alloc (.cells #[.int .i64 fx0_0, .int .i64 fx0_1, .int .i64 fx0_2, .int .i64 fx0_3, .int .i64 fx0_4, .int .i64 fx0_5, .int .i64 fx0_6, .int .i64 fx0_7, .int .i64 fx0_8] 37)).cell? ⟨w4.heap.size, 1, none⟩ = some (.int .i64 fx0_1) := (S.at_ 3 rfl).cell 1
  have f11 : (w8.alloc (.cells #[.int .i64 fx0_0, .int .i64 fx0_1, .int .i64 fx0_2, .int .i64 fx0_3, .int .i64 fx0_4, .int .i64 fx0_5, .int .i64 fx0_6, .int .i64 fx0_7, .int .i64 fx0_8] 37)).cell? ⟨w4.heap.size, 2, none⟩ = some (.int .i64 fx0_2) := (S.at_ 3 rfl).cell 2
  have f12 : (w8.alloc (.cells #[.int .i64 fx0_0, .int .i64 fx0_1, .int .i64 fx0_2, .int .i64 fx0_3, .int .i64 fx0_4, .int .i64 fx0_5, .int .i64 fx0_6, .int .i64 fx0_7, .int .i64 fx0_8] 37)).cell? ⟨w4.heap.size, 3, none⟩ = some (.int .i64 fx0_3) := (S.at_ 3 rfl).cell 3
  have f13 : (w8.alloc (.cells #[.int .i64 fx0_0, .int .i64 fx0_1, .int .i64 fx0_2, .int .i64 fx0_3, .int .i64 fx0_4, .int .i64 fx0_5, .int .i64 fx0_6, .int .i64 fx0_7, .int .i64 fx0_8] 37)).cell? ⟨w4.heap.size, 4, none⟩ = some (.int .i64 fx0_4) := (S.at_ 3 rfl).cell 4
  have f14 : (w8.alloc (.cells #[.int .i64 fx0_0, .int .i64 fx0_1, .int .i64 fx0_2, .int .i64 fx0_3, .int .i64 fx0_4, .int .i64 fx0_5, .int .i64 fx0_6, .int .i64 fx0_7, .int .i64 fx0_8] 37)).cell? ⟨w4.heap.size, 5, none⟩ = some (.int .i64 fx0_5) := (S.at_ 3 rfl).cell 5
  have f15 : (w8.alloc (.cells #[.int .i64 fx0_0, .int .i64 fx0_1, .int .i64 fx0_2, .int .i64 fx0_3, .int .i64 fx0_4, .int .i64 fx0_5, .int .i64 fx0_6, .int .i64 fx0_7, .int .i64 fx0_8] 37)).cell? ⟨w4.heap.size, 6, none⟩ = some (.int .i64 fx0_6) := (S.at_ 3 rfl).cell 6
  have f16 : (w8.alloc (.cells #[.int .i64 fx0_0, .int .i64 fx0_1, .int .i64 fx0_2, .int .i64 fx0_3, .int .i64 fx0_4, .int .i64 fx0_5, .int .i64 fx0_6, .int .i64 fx0_7, .int .i64 fx0_8] 37)).cell? ⟨w4.heap.size, 7, none⟩ = some (.int .i64 fx0_7) := (S.at_ 3 rfl).cell 7
  have f17 : (w8.alloc (.cells #[.int .i64 fx0_0, .int .i64 fx0_1, .int .i64 fx0_2, .int .i64 fx0_3, .int .i64 fx0_4, .int .i64 fx0_5, .int .i64 fx0_6, .int .i64 fx0_7, .int .i64 fx0_8] 37)).cell? ⟨w4.heap.size, 8, none⟩ = some (.int .i64 fx0_8) := (S.at_ 3 rfl).cell 8
  go_wp2_with fail
  generalize w8.alloc (.cells #[.int .i64 fx0_0, .int .i64 fx0_1, .int .i64 fx0_2, .int .i64 fx0_3, .int .i64 fx0_4, .int .i64 fx0_5, .int .i64 fx0_6, .int .i64 fx0_7, .int .i64 fx0_8] 37) = w9 at *
  refine (eqEntry_one fx0_0 fx0_1 fx0_2 fx0_3 fx0_4 fx0_5 fx0_6 fx0_7 fx0_8 _).mono ?_
  rintro e w10 ⟨rfl, b⟩
  replace c := c.trans (b.mono c.size)
  replace S := S.keep b
  clear b f0 f1 f2 f3 f4 f5 f6 f7 f8 f9 f10 f11 f12 f13 f14 f15 f16 f17
  have f0 : (w10).cell? ⟨w6.heap.size, 0, none⟩ = some (.int .i64 xx0_0) := (S.at_ 1 rfl).cell 0
  have f1 : (w10).cell? ⟨w6.heap.size, 1, none⟩ = some (.int .i64 xx0_1) := (S.at_ 1 rfl).cell 1
  have f2 : (w10).cell? ⟨w6.heap.size, 2, none⟩ = some (.slice Ax0_2 nx0_2 cx0_2) := (S.at_ 1 rfl).cell 2
  have f3 : (w10).cell? ⟨w.heap.size, 0, none⟩ = some (.int .i64 xa0_0) := (S.at_ 5 rfl).cell 0
  have f4 : (w10).cell? ⟨w.heap.size, 1, none⟩ = some (.int .i64 xa0_1) := (S.at_ 5 rfl).cell 1
  have f5 : (w10).cell? ⟨w.heap.size, 2, none⟩ = some (.slice Aa0_2 na0_2 ca0_2) := (S.at_ 5 rfl).cell 2
  have SH := Lib.hid S
  have CH := Lib.hid c
  clear S c
  go_wp2_with fail
  go_region_held3 (fun v => v.cell? ⟨w6.heap.size, 0, none⟩ = some (.int .i64 xx0_0) ∧ v.cell? ⟨w6.heap.size, 1, none⟩ = some (.int .i64 xx0_1) ∧ v.cell? ⟨w6.heap.size, 2, none⟩ = some (.slice Ax0_2 nx0_2 cx0_2) ∧ v.cell? ⟨w.heap.size, 0, none⟩ = some (.int .i64 xa0_0) ∧ v.cell? ⟨w.heap.size, 1, none⟩ = some (.int .i64 xa0_1) ∧ v.cell? ⟨w.heap.size, 2, none⟩ = some (.slice Aa0_2 na0_2 ca0_2)) (go_keep)
    (first
      | (go_at_call 15
         refine (toBook_made _ _ _ d0 _ ((h0.keep CH.out.drew).up CH.out.size) hz0).mono ?_
         rintro e w11 ⟨xz0_0, xz0_1, Az0_2, nz0_2, cz0_2, rfl, o, b⟩
         have S1 := (SH.out.keep ((Below.refl _ _).drew)).keep b
         have g0 : (w11).cell? ⟨w6.heap.size, 0, none⟩ = some (.int .i64 xx0_0) := (S1.at_ 1 rfl).cell 0
         have g1 : (w11).cell? ⟨w6.heap.size, 1, none⟩ = some (.int .i64 xx0_1) := (S1.at_ 1 rfl).cell 1
         have g2 : (w11).cell? ⟨w6.heap.size, 2, none⟩ = some (.slice Ax0_2 nx0_2 cx0_2) := (S1.at_ 1 rfl).cell 2
         have g3 : (w11).cell? ⟨w.heap.size, 0, none⟩ = some (.int .i64 xa0_0) := (S1.at_ 5 rfl).cell 0
         have g4 : (w11).cell? ⟨w.heap.size, 1, none⟩ = some (.int .i64 xa0_1) := (S1.at_ 5 rfl).cell 1
         have g5 : (w11).cell? ⟨w.heap.size, 2, none⟩ = some (.slice Aa0_2 na0_2 ca0_2) := (S1.at_ 5 rfl).cell 2
         have O1 := Lib.hid o
         have B1 := Lib.hid b
         clear S1 o b)
      | (go_at_call 17
         refine (eqBook_yes _ _ _ _ _ _ _ _ d0 _ ((((SH.out.keep ((Below.refl _ _).drew)).keep B1.out).own_ 2 rfl).rd) (O1.out.rd) (Nat.le_refl _) (Nat.le_refl _) (by omega)).mono ?_
         rintro e w12 ⟨rfl, b⟩
         have S3 := ((SH.out.keep ((Below.refl _ _).drew)).keep B1.out).keep b
         have r0 : (w12).cell? ⟨w6.heap.size, 0, none⟩ = some (.int .i64 xx0_0) := (S3.at_ 1 rfl).cell 0
         have r1 : (w12).cell? ⟨w6.heap.size, 1, none⟩ = some (.int .i64 xx0_1) := (S3.at_ 1 rfl).cell 1
         have r2 : (w12).cell? ⟨w6.heap.size, 2, none⟩ = some (.slice Ax0_2 nx0_2 cx0_2) := (S3.at_ 1 rfl).cell 2
         have r3 : (w12).cell? ⟨w.heap.size, 0, none⟩ = some (.int .i64 xa0_0) := (S3.at_ 5 rfl).cell 0
         have r4 : (w12).cell? ⟨w.heap.size, 1, none⟩ = some (.int .i64 xa0_1) := (S3.at_ 5 rfl).cell 1
         have r5 : (w12).cell? ⟨w.heap.size, 2, none⟩ = some (.slice Aa0_2 na0_2 ca0_2) := (S3.at_ 5 rfl).cell 2
         have S2 := Lib.hid S3
         have C2 := Lib.hid ((CH.out.drew.trans (B1.out.mono CH.out.size)).trans (b.mono (CH.out.drew.trans (B1.out.mono CH.out.size)).size))
         clear b S3))
  have S := S2.out
  have c := C2.out
  clear SH CH S2 C2 O1 B1 f0 g0 r0 f1 g1 r1 f2 g2 r2 f3 g3 r3 f4 g4 r4 f5 g5 r5
  go_wp2
  go_ret
  exact ⟨rfl, c⟩

end Go.Proofs.Ytnjfdnjakogpmaa

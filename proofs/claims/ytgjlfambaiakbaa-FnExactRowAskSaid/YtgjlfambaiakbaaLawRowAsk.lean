/-
  The exact law of RowAsk over contracts of the model and of the program (by program, wip/gen/genletl.py).
-/
import Derived.Test.YtgjlfambaiakbaaLet
import Derived.RegionTactic
namespace Go.Proofs.Ytgjlfambaiakbaa
set_option maxRecDepth 100000
open Go.RowKit

set_option maxHeartbeats 12800000 in
theorem lawRowAsk (f : List Int → AskM × Bool)
    (hs : ∀ (A : Option Addr) (n c : Nat) (d0 : List Int) (w : World), Rd w w.heap.size (rowCells d0) [.slice A n c] → d0.length ≤ 1048576 → Calls Try.prog 9 #[.slice A n c] w (fun e w' => e = .returned (.tuple #[.agg #[.int .i64 (f d0).1.cl, .int .i64 (f d0).1.sq, .int .i64 (f d0).1.kd, .int .i64 (f d0).1.oa, .int .i64 (f d0).1.ob, .int .i64 (f d0).1.oc, .int .i64 (f d0).1.od], .bool (f d0).2]) ∧ Below w.heap.size w w'))
    (hi : ∀ (A : Option Addr) (n c : Nat) (d0 : List Int) (w : World), Rd w w.heap.size (rowCells d0) [.slice A n c] → d0.length ≤ 1048576 → Calls Try.prog 11 #[.slice A n c] w (fun e w' => e = .returned (.tuple #[.agg #[.int .i64 (f d0).1.cl, .int .i64 (f d0).1.sq, .int .i64 (f d0).1.kd, .int .i64 (f d0).1.oa, .int .i64 (f d0).1.ob, .int .i64 (f d0).1.oc, .int .i64 (f d0).1.od], .bool (f d0).2]) ∧ Below w.heap.size w w'))
    (A0 : Option Addr) (n0 c0 : Nat) (d0 : List Int) (w : World) (h0 : Rd w w.heap.size (rowCells d0) [.slice A0 n0 c0]) :
    Calls Try.prog 3 #[.slice A0 n0 c0] w fun e w' => e = .returned (.bool true) ∧ Below w.heap.size w w' := by
  have SP := Lib.hid hs
  have IM := Lib.hid hi
  clear hs hi
  have S := Sep.nil w w.heap.size
  have c := Below.refl w.heap.size w
  obtain ⟨_, _, _, e, hh, hnc, hcm⟩ := h0.irow
  injection e with e1 e2 e3
  subst e1 e2 e3
  have hl := hh.1
  have mx : n0 ≤ maxLen := Nat.le_trans hnc hcm
  unfold maxLen at mx
  clear hh hnc hcm
  go_enter Try.func3, Try.ntmps3
  by_cases hz : n0 ≤ 1048576
  case neg =>
    have hz1 : (n0 : Int) > 1048576 := by omega
    go_wp2
    go_ret
    exact ⟨rfl, c⟩
  have hz0 : d0.length ≤ 1048576 := by omega
  have hz1 : ¬ ((n0 : Int) > 1048576) := by omega
  clear hl
  obtain ⟨r0, hr0⟩ : ∃ r, r = (f d0).1.cl := ⟨_, rfl⟩
  obtain ⟨r1, hr1⟩ : ∃ r, r = (f d0).1.sq := ⟨_, rfl⟩
  obtain ⟨r2, hr2⟩ : ∃ r, r = (f d0).1.kd := ⟨_, rfl⟩
  obtain ⟨r3, hr3⟩ : ∃ r, r = (f d0).1.oa := ⟨_, rfl⟩
  obtain ⟨r4, hr4⟩ : ∃ r, r = (f d0).1.ob := ⟨_, rfl⟩
  obtain ⟨r5, hr5⟩ : ∃ r, r = (f d0).1.oc := ⟨_, rfl⟩
  obtain ⟨r6, hr6⟩ : ∃ r, r = (f d0).1.od := ⟨_, rfl⟩
  obtain ⟨rb, hrb⟩ : ∃ r, r = (f d0).2 := ⟨_, rfl⟩
  have HR0 := Lib.hid hr0
  have HR1 := Lib.hid hr1
  have HR2 := Lib.hid hr2
  have HR3 := Lib.hid hr3
  have HR4 := Lib.hid hr4
  have HR5 := Lib.hid hr5
  have HR6 := Lib.hid hr6
  have HRB := Lib.hid hrb
  clear hrb hr0 hr1 hr2 hr3 hr4 hr5 hr6
  go_wp2_with fail
  refine (toI_made _ _ _ d0 _ ((h0.keep c).up c.size) hz0).mono ?_
  rintro e w1 ⟨As0, ns0, cs0, rfl, o, b⟩
  obtain ⟨fp_s0, S'⟩ := S.has b o c.size
  replace c := c.trans (b.mono c.size)
  clear S; have S := S'; clear S' o b
  go_wp2_with fail
  refine (SP.out _ _ _ d0 _ (S.own_ 0 rfl).rd hz0).mono ?_
  rintro e w2 ⟨rfl, b⟩
  replace c := c.trans (b.mono c.size)
  replace S := S.keep b
  clear b
  rw [← HR0.out, ← HR1.out, ← HR2.out, ← HR3.out, ← HR4.out, ← HR5.out, ← HR6.out, ← HRB.out]
  replace S := S.boxAt c.size (w2.heap.size) rfl #[.int .i64 r0, .int .i64 r1, .int .i64 r2, .int .i64 r3, .int .i64 r4, .int .i64 r5, .int .i64 r6] 26
  replace c := c.alloc c.size (.cells #[.int .i64 r0, .int .i64 r1, .int .i64 r2, .int .i64 r3, .int .i64 r4, .int .i64 r5, .int .i64 r6] 26)
  go_wp2_with fail
  generalize w2.alloc (.cells #[.int .i64 r0, .int .i64 r1, .int .i64 r2, .int .i64 r3, .int .i64 r4, .int .i64 r5, .int .i64 r6] 26) = w3 at *
  refine (toI_made _ _ _ d0 _ ((h0.keep c).up c.size) hz0).mono ?_
  rintro e w4 ⟨Ax0, nx0, cx0, rfl, o, b⟩
  obtain ⟨fp_x0, S'⟩ := S.has b o c.size
  replace c := c.trans (b.mono c.size)
  clear S; have S := S'; clear S' o b
  go_wp2_with fail
  refine (IM.out _ _ _ d0 _ (S.own_ 0 rfl).rd hz0).mono ?_
  rintro e w5 ⟨rfl, b⟩
  replace c := c.trans (b.mono c.size)
  replace S := S.keep b
  clear b
  rw [← HR0.out, ← HR1.out, ← HR2.out, ← HR3.out, ← HR4.out, ← HR5.out, ← HR6.out, ← HRB.out]
  replace S := S.boxAt c.size (w5.heap.size) rfl #[.int .i64 r0, .int .i64 r1, .int .i64 r2, .int .i64 r3, .int .i64 r4, .int .i64 r5, .int .i64 r6] 26
  replace c := c.alloc c.size (.cells #[.int .i64 r0, .int .i64 r1, .int .i64 r2, .int .i64 r3, .int .i64 r4, .int .i64 r5, .int .i64 r6] 26)
  have f0 : (w5.alloc (.cells #[.int .i64 r0, .int .i64 r1, .int .i64 r2, .int .i64 r3, .int .i64 r4, .int .i64 r5, .int .i64 r6] 26)).cell? ⟨w5.heap.size, 0, none⟩ = some (.int .i64 r0) := (S.at_ 0 rfl).cell 0
  have f1 : (w5.alloc (.cells #[.int .i64 r0, .int .i64 r1, .int .i64 r2, .int .i64 r3, .int .i64 r4, .int .i64 r5, .int .i64 r6] 26)).cell? ⟨w5.heap.size, 1, none⟩ = some (.int .i64 r1) := (S.at_ 0 rfl).cell 1
  have f2 : (w5.alloc (.cells #[.int .i64 r0, .int .i64 r1, .int .i64 r2, .int .i64 r3, .int .i64 r4, .int .i64 r5, .int .i64 r6] 26)).cell? ⟨w5.heap.size, 2, none⟩ = some (.int .i64 r2) := (S.at_ 0 rfl).cell 2
  have f3 : (w5.alloc (.cells #[.int .i64 r0, .int .i64 r1, .int .i64 r2, .int .i64 r3, .int .i64 r4, .int .i64 r5, .int .i64 r6] 26)).cell? ⟨w5.heap.size, 3, none⟩ = some (.int .i64 r3) := (S.at_ 0 rfl).cell 3
  have f4 : (w5.alloc (.cells #[.int .i64 r0, .int .i64 r1, .int .i64 r2, .int .i64 r3, .int .i64 r4, .int .i64 r5, .int .i64 r6] 26)).cell? ⟨w5.heap.size, 4, none⟩ = some (.int .i64 r4) := (S.at_ 0 rfl).cell 4
  have f5 : (w5.alloc (.cells #[.int .i64 r0, .int .i64 r1, .int .i64 r2, .int .i64 r3, .int .i64 r4, .int .i64 r5, .int .i64 r6] 26)).cell? ⟨w5.heap.size, 5, none⟩ = some (.int .i64 r5) := (S.at_ 0 rfl).cell 5
  have f6 : (w5.alloc (.cells #[.int .i64 r0, .int .i64 r1, .int .i64 r2, .int .i64 r3, .int .i64 r4, .int .i64 r5, .int .i64 r6] 26)).cell? ⟨w5.heap.size, 6, none⟩ = some (.int .i64 r6) := (S.at_ 0 rfl).cell 6
  have f7 : (w5.alloc (.cells #[.int .i64 r0, .int .i64 r1, .int .i64 r2, .int .i64 r3, .int .i64 r4, .int .i64 r5, .int .i64 r6] 26)).cell? ⟨w2.heap.size, 0, none⟩ = some (.int .i64 r0) := (S.at_ 2 rfl).cell 0
  have f8 : (w5.alloc (.cells #[.int .i64 r0, .int .i64 r1, .int .i64 r2, .int .i64 r3, .int .i64 r4, .int .i64 r5, .int .i64 r6] 26)).cell? ⟨w2.heap.size, 1, none⟩ = some (.int .i64 r1) := (S.at_ 2 rfl).cell 1
  have f9 : (w5.alloc (.cells #[.int .i64 r0, .int .i64 r1, .int .i64 r2, .int .i64 r3, .int .i64 r4, .int .i64 r5, .int .i64 r6] 26)).cell? ⟨w2.heap.size, 2, none⟩ = some (.int .i64 r2) := (S.at_ 2 rfl).cell 2
  have f10 : (w5.alloc (.cells #[.int .i64 r0, .int .i64 r1, .int .i64 r2, .int .i64 r3, .int .i64 r4, .int .i64 r5, .int .i64 r6] 26)).cell? ⟨w2.heap.size, 3, none⟩ = some (.int .i64 r3) := (S.at_ 2 rfl).cell 3
  have f11 : (w5.alloc (.cells #[.int .i64 r0, .int .i64 r1, .int .i64 r2, .int .i64 r3, .int .i64 r4, .int .i64 r5, .int .i64 r6] 26)).cell? ⟨w2.heap.size, 4, none⟩ = some (.int .i64 r4) := (S.at_ 2 rfl).cell 4
  have f12 : (w5.alloc (.cells #[.int .i64 r0, .int .i64 r1, .int .i64 r2, .int .i64 r3, .int .i64 r4, .int .i64 r5, .int .i64 r6] 26)).cell? ⟨w2.heap.size, 5, none⟩ = some (.int .i64 r5) := (S.at_ 2 rfl).cell 5
  have f13 : (w5.alloc (.cells #[.int .i64 r0, .int .i64 r1, .int .i64 r2, .int .i64 r3, .int .i64 r4, .int .i64 r5, .int .i64 r6] 26)).cell? ⟨w2.heap.size, 6, none⟩ = some (.int .i64 r6) := (S.at_ 2 rfl).cell 6
  go_wp2_with fail
  generalize w5.alloc (.cells #[.int .i64 r0, .int .i64 r1, .int .i64 r2, .int .i64 r3, .int .i64 r4, .int .i64 r5, .int .i64 r6] 26) = w6 at *
  refine (eqAsk_one r0 r1 r2 r3 r4 r5 r6 _).mono ?_
  rintro e w7 ⟨rfl, b⟩
  replace c := c.trans (b.mono c.size)
  replace S := S.keep b
  clear b f0 f1 f2 f3 f4 f5 f6 f7 f8 f9 f10 f11 f12 f13
  have hbb : (rb != rb) = false := by simp
  go_wp2_with fail
  refine (toI_made _ _ _ d0 _ ((h0.keep c).up c.size) hz0).mono ?_
  rintro e w8 ⟨Az0, nz0, cz0, rfl, o, b⟩
  obtain ⟨fp_z0, S'⟩ := S.has b o c.size
  replace c := c.trans (b.mono c.size)
  clear S; have S := S'; clear S' o b
  go_wp2_with fail
  refine (eqI_yes _ _ _ _ _ _ _ _ d0 _ (S.own_ 2 rfl).rd (S.own_ 0 rfl).rd (by omega)).mono ?_
  rintro e w9 ⟨rfl, b⟩
  replace c := c.trans (b.mono c.size)
  replace S := S.keep b
  clear b
  go_wp2
  go_ret
  exact ⟨rfl, c⟩

end Go.Proofs.Ytgjlfambaiakbaa

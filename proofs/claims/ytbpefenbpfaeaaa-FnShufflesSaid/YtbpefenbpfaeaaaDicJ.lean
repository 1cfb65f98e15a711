/-
  Rolled and Under, of the program of chapter 2: one number, by a closure over the seed.
-/
import Derived.Test.YtbpefenbpfaeaaaDicI
import Derived.RegionTactic
namespace Go.Proofs.Ytbpefenbpfaeaaa
open Go.RowKit

set_option maxHeartbeats 1600000 in
theorem iRolled_any (s : Int) (w : World) :
    Calls Try.prog 26 #[.agg #[.int .i64 s]] w fun e w' => e = .returned (.tuple #[.agg #[.int .i64 (rolled s).1], .int .i64 (rolled s).2]) ∧ Below w.heap.size w w' := by
  obtain ⟨w0, hw0⟩ : ∃ w0, w0 = (w.alloc (.cells #[.int .i64 s] 25)).alloc (.cells #[.int .i64 0] 25) := ⟨_, rfl⟩
  have x0 : Box w0 w.heap.size s := by rw [hw0]; exact (Box.new w s).alloc _
  have y0 : Box w0 (w.heap.size + 1) 0 := by
    rw [hw0]
    have := Box.new (w.alloc (.cells #[.int .i64 s] 25)) 0
    simpa using this
  have b0 : Below w.heap.size w w0 := by
    rw [hw0]
    exact ((Below.refl _ w).alloc (Nat.le_refl _) _).alloc (by simp) _
  have z0' : w.heap.size + 1 < w0.heap.size := y0.lt
  have HW := Lib.hid hw0
  clear hw0
  cases hd : diceOk s
  · have HR := Lib.hid (show rolled s = (0, 0) by simp [rolled, hd])
    go_enter Try.func26, Try.ntmps26
    go_wp2_with fail
    rw [← HW.out]
    refine (iDiceOk_any s _).mono ?_
    rintro e w1 ⟨rfl, b1⟩
    rw [hd]
    have y1 := y0.below b1 z0'
    have c1 := y1.cell
    have f1 := y1.free
    have B1 := Lib.hid ((b0.trans (b1.mono b0.size)).setCell (p := ⟨w.heap.size + 1, 0, none⟩) (by simp) (.int .i64 0))
    clear x0 y0 y1 b0 b1
    go_wp2
    refine bodyPost_ret (v := .tuple #[.agg #[.int .i64 0], .int .i64 0]) (by simp [results, Try.results26, go_sem, c1]) rfl ⟨by rw [HR.out], B1.out⟩
  · have HR := Lib.hid (show rolled s = (rollN s, rollN s) by simp [rolled, hd])
    have HD := Lib.hid hd
    clear hd
    go_enter Try.func26, Try.ntmps26
    go_wp2_with fail
    rw [← HW.out]
    refine (iDiceOk_any s _).mono ?_
    rintro e w1 ⟨rfl, b1⟩
    rw [HD.out]
    have x1 := x0.below b1 x0.lt
    have y1 := y0.below b1 z0'
    have c1 := b0.trans (b1.mono b0.size)
    have cx := x1.cell
    have fx := x1.free
    clear x0 y0 b0 b1
    go_wp2_with fail
    refine (iDrawer_any s _).mono ?_
    rintro e w2 ⟨rfl, n2, b2⟩
    have y2 := y1.below b2 y1.lt
    have zy := y1.lt
    have c2 := c1.trans (b2.mono c1.size)
    have zc := c1.size
    clear x1 y1 cx fx b2 c1
    unfold drawFn afterFn
    go_wp2_with fail
    refine (iDraw_any s _ _ n2 HD.out).mono ?_
    rintro e w3 ⟨rfl, rfl⟩
    have n3 := n2.set_ (rollN s)
    have y3 := y2.far (q := w1.heap.size + 1) (i := 0) (.int .i64 (rollN s)) (by omega)
    have c3 := c2.setCell (p := ⟨w1.heap.size + 1, 0, none⟩) (by show w.heap.size ≤ w1.heap.size + 1; omega) (.int .i64 (rollN s))
    clear n2 y2 c2
    generalize w2.setCell ⟨w1.heap.size + 1, 0, none⟩ (.int .i64 (rollN s)) = w3 at *
    go_wp2_with fail
    refine (iAfter_any _ _ _ n3).mono ?_
    rintro e w4 ⟨rfl, b4⟩
    have y4 := y3.below b4 y3.lt
    have c1 := y4.cell
    have f1 := y4.free
    have B4 := Lib.hid ((c3.trans (b4.mono c3.size)).setCell (p := ⟨w.heap.size + 1, 0, none⟩) (by simp) (.int .i64 (rollN s)))
    clear n3 y3 c3 b4 y4
    go_wp2
    refine bodyPost_ret (v := .tuple #[.agg #[.int .i64 (rollN s)], .int .i64 (rollN s)]) (by simp [results, Try.results26, go_sem, c1]) rfl ⟨by rw [HR.out], B4.out⟩

set_option maxHeartbeats 1600000 in
theorem iUnder_any (s n : Int) (w : World) :
    Calls Try.prog 16 #[.agg #[.int .i64 s], .int .i64 n] w fun e w' => e = .returned (.tuple #[.agg #[.int .i64 (under s n).1], .int .i64 (under s n).2]) ∧ Below w.heap.size w w' := by
  cases hd : diceOk s
  · have HR := Lib.hid (show under s n = (0, 0) by simp [under, hd])
    go_enter Try.func16, Try.ntmps16
    go_wp2_with fail
    refine (iDiceOk_any s _).mono ?_
    rintro e w1 ⟨rfl, b1⟩
    rw [hd]
    obtain ⟨hc, hf⟩ := bcell b1
    have B1 := Lib.hid b1
    have z1 : w.heap.size + 1 < w1.heap.size := by have := b1.size; simp at this; omega
    clear b1
    go_wp2
    refine bodyPost_ret (v := .tuple #[.agg #[.int .i64 0], .int .i64 0]) (by simp [results, Try.results16, go_sem, hc]) rfl ⟨by rw [HR.out], ?_⟩
    refine Below.setCell ((((Below.refl _ w).alloc (Nat.le_refl _) _).alloc (by simp) _).trans (B1.out.mono (by simp; omega))) (by simp) _
  obtain ⟨s0, s1⟩ := diceOk_iff.1 hd
  have HD := Lib.hid hd
  clear hd
  cases hn : nOk n
  · have HR := Lib.hid (show under s n = (s, 0) by simp [under, HD.out, hn])
    go_enter Try.func16, Try.ntmps16
    go_wp2_with fail
    refine (iDiceOk_any s _).mono ?_
    rintro e w1 ⟨rfl, b1⟩
    rw [HD.out]
    obtain ⟨hc, hf⟩ := bcell b1
    have B1 := Lib.hid b1
    have z1 : w.heap.size + 1 < w1.heap.size := by have := b1.size; simp at this; omega
    clear b1
    go_wp2_with fail
    refine (iBound_any _ _).mono ?_
    rintro e w1' ⟨rfl, rfl⟩
    rw [hn]
    go_wp2
    refine bodyPost_ret (v := .tuple #[.agg #[.int .i64 s], .int .i64 0]) (by simp [results, Try.results16, go_sem, hc]) rfl ⟨by rw [HR.out], ?_⟩
    refine Below.setCell ((((Below.refl _ w).alloc (Nat.le_refl _) _).alloc (by simp) _).trans (B1.out.mono (by simp; omega))) (by simp) _
  · have HR := Lib.hid (show under s n = (rollN s, rollN s % n) by simp [under, HD.out, hn])
    obtain ⟨n0, n1⟩ := nOk_iff.1 hn
    have HN := Lib.hid hn
    have hr := rollN_bd s
    have HRo := Lib.hid (show rolled s = (rollN s, rollN s) by simp [rolled, HD.out])
    clear hn
    have hne : (n == 0) = false := by simp; omega
    go_enter Try.func16, Try.ntmps16
    go_wp2_with fail
    refine (iDiceOk_any s _).mono ?_
    rintro e w1 ⟨rfl, b1⟩
    rw [HD.out]
    obtain ⟨hc, hf⟩ := bcell b1
    have B1 := Lib.hid b1
    have z1 : w.heap.size + 1 < w1.heap.size := by have := b1.size; simp at this; omega
    clear b1
    go_wp2_with fail
    refine (iBound_any _ _).mono ?_
    rintro e w1' ⟨rfl, rfl⟩
    rw [HN.out]
    go_wp2_with fail
    refine (iRolled_any s _).mono ?_
    rintro e w2 ⟨rfl, b2⟩
    rw [HRo.out]
    generalize hq : rollN s = q at hr
    have HQ := Lib.hid hq
    clear hq
    obtain ⟨q0, q1⟩ := hr
    have c1 : w2.cell? ⟨w.heap.size + 1, 0, none⟩ = some (.int .i64 0) := (b2.cell (p := ⟨w.heap.size + 1, 0, none⟩) z1).trans (by rw [hc _ _ (by simp)]; simp)
    have f1 : w2.frozen? ⟨w.heap.size + 1, 0, none⟩ = false := (b2.frozen (p := ⟨w.heap.size + 1, 0, none⟩) z1).trans (by rw [hf _ _ (by simp)]; simp)
    have B2 := Lib.hid b2
    have z2 := b2.size
    have hne2 : w2.heap.size ≠ w.heap.size + 1 := by omega
    have cA : (w2.alloc (.cells #[.int .i64 q] 25)).cell? ⟨w.heap.size + 1, 0, none⟩ = some (.int .i64 0) := (World.cell?_alloc_lt w2 _ ⟨w.heap.size + 1, 0, none⟩ (by show w.heap.size + 1 < _; omega)).trans c1
    have fA : (w2.alloc (.cells #[.int .i64 q] 25)).frozen? ⟨w.heap.size + 1, 0, none⟩ = false := ((new_lt w2 (.cells #[.int .i64 q] 25)).frozen (p := ⟨w.heap.size + 1, 0, none⟩) (by show w.heap.size + 1 < _; omega)).trans f1
    have hn0 : n ≠ 0 := by omega
    clear hc hf b2 c1 f1
    go_wp2
    go_region
    all_goals
      go_wp2
      refine bodyPost_ret (v := .tuple #[.agg #[.int .i64 q], .int .i64 (q % n)]) ?_ rfl ⟨by rw [HR.out, HQ.out], ?_⟩
    · simp [results, Try.results16, go_sem, cA]
    · have b01 := (((Below.refl _ w).alloc (Nat.le_refl _) (.cells #[.int .i64 s] 25)).alloc (by simp) (.cells #[.int .i64 0] 25)).trans (B1.out.mono (by simp; omega))
      exact (((b01.trans (B2.out.mono (by omega))).alloc (by omega) _).setCell (p := ⟨w.heap.size + 1, 0, none⟩) (by simp) _).drew

end Go.Proofs.Ytbpefenbpfaeaaa

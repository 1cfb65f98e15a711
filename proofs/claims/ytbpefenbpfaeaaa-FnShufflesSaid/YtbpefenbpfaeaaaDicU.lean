/-
  Under, of the model of chapter 2: the generator after one roll, and the number modulo the bound.
-/
import Derived.Test.YtbpefenbpfaeaaaDic
import Derived.RegionTactic
namespace Go.Proofs.Ytbpefenbpfaeaaa
open Go.RowKit

theorem nOk_in (n : Int) : (decide (1 ≤ n) && decide (n ≤ 1000000000)) = nOk n := rfl

set_option maxHeartbeats 1600000 in
theorem sUnder_any (s n : Int) (w : World) :
    Calls Try.prog 27 #[.agg #[.int .i64 s], .int .i64 n] w fun e w' => e = .returned (.tuple #[.agg #[.int .i64 (under s n).1], .int .i64 (under s n).2]) ∧ Below w.heap.size w w' := by
  cases hd : diceOk s
  · have HR := Lib.hid (show under s n = (0, 0) by simp [under, hd])
    go_enter Try.func27, Try.ntmps27
    go_wp2_with fail
    refine (sDiceOk_any s _).mono ?_
    rintro e w1 ⟨rfl, b1⟩
    rw [hd]
    obtain ⟨hc, hf⟩ := bcell b1
    have B1 := Lib.hid b1
    have z1 : w.heap.size + 1 < w1.heap.size := by have := b1.size; simp at this; omega
    clear b1
    go_wp2
    refine bodyPost_ret (v := .tuple #[.agg #[.int .i64 0], .int .i64 0]) (by simp [results, Try.results27, go_sem, hc]) rfl ⟨by rw [HR.out], ?_⟩
    refine Below.setCell ((((Below.refl _ w).alloc (Nat.le_refl _) _).alloc (by simp) _).trans (B1.out.mono (by simp; omega))) (by simp) _
  obtain ⟨s0, s1⟩ := diceOk_iff.1 hd
  have HD := Lib.hid hd
  clear hd
  cases hn : nOk n
  · have HR := Lib.hid (show under s n = (s, 0) by simp [under, HD.out, hn])
    go_enter Try.func27, Try.ntmps27
    go_wp2_with fail
    refine (sDiceOk_any s _).mono ?_
    rintro e w1 ⟨rfl, b1⟩
    rw [HD.out]
    obtain ⟨hc, hf⟩ := bcell b1
    have B1 := Lib.hid b1
    have z1 : w.heap.size + 1 < w1.heap.size := by have := b1.size; simp at this; omega
    clear b1
    go_wp2_with fail
    refine (in_any _ _ _ _).mono ?_
    rintro e w1' ⟨rfl, rfl⟩
    rw [nOk_in, hn]
    go_wp2
    refine bodyPost_ret (v := .tuple #[.agg #[.int .i64 s], .int .i64 0]) (by simp [results, Try.results27, go_sem, hc]) rfl ⟨by rw [HR.out], ?_⟩
    refine Below.setCell ((((Below.refl _ w).alloc (Nat.le_refl _) _).alloc (by simp) _).trans (B1.out.mono (by simp; omega))) (by simp) _
  · have HR := Lib.hid (show under s n = (rollN s, rollN s % n) by simp [under, HD.out, hn])
    obtain ⟨n0, n1⟩ := nOk_iff.1 hn
    have HN := Lib.hid hn
    have hr := rollN_bd s
    have HRo := Lib.hid (show rolled s = (rollN s, rollN s) by simp [rolled, HD.out])
    clear hn
    have hne : (n == 0) = false := by simp; omega
    go_enter Try.func27, Try.ntmps27
    go_wp2_with fail
    refine (sDiceOk_any s _).mono ?_
    rintro e w1 ⟨rfl, b1⟩
    rw [HD.out]
    obtain ⟨hc, hf⟩ := bcell b1
    have B1 := Lib.hid b1
    have z1 : w.heap.size + 1 < w1.heap.size := by have := b1.size; simp at this; omega
    clear b1
    go_wp2_with fail
    refine (in_any _ _ _ _).mono ?_
    rintro e w1' ⟨rfl, rfl⟩
    rw [nOk_in, HN.out]
    go_wp2_with fail
    refine (sRolled_any s _).mono ?_
    rintro e w2 ⟨rfl, b2⟩
    rw [HRo.out]
    generalize hq : rollN s = q at hr
    have HQ := Lib.hid hq
    clear hq
    obtain ⟨q0, q1⟩ := hr
    have c1 : w2.cell? ⟨w.heap.size + 1, 0, none⟩ = some (.int .i64 0) := (b2.cell (p := ⟨w.heap.size + 1, 0, none⟩) z1).trans (by rw [hc _ _ (by simp)]; simp)
    have f1 : w2.frozen? ⟨w.heap.size + 1, 0, none⟩ = false := (b2.frozen (p := ⟨w.heap.size + 1, 0, none⟩) z1).trans (by rw [hf _ _ (by simp)]; simp)
    have B2 := Lib.hid b2
    have z2 := b2.size
    have hne2 : w2.heap.size ≠ w.heap.size + 1 := by omega
    have cA : (w2.alloc (.cells #[.int .i64 q] 25)).cell? ⟨w.heap.size + 1, 0, none⟩ = some (.int .i64 0) := (World.cell?_alloc_lt w2 _ ⟨w.heap.size + 1, 0, none⟩ (by show w.heap.size + 1 < _; omega)).trans c1
    have fA : (w2.alloc (.cells #[.int .i64 q] 25)).frozen? ⟨w.heap.size + 1, 0, none⟩ = false := ((new_lt w2 (.cells #[.int .i64 q] 25)).frozen (p := ⟨w.heap.size + 1, 0, none⟩) (by show w.heap.size + 1 < _; omega)).trans f1
    have hn0 : n ≠ 0 := by omega
    clear hc hf b2 c1 f1
    go_wp2
    go_region
    all_goals
      go_wp2
      refine bodyPost_ret (v := .tuple #[.agg #[.int .i64 q], .int .i64 (q % n)]) ?_ rfl ⟨by rw [HR.out, HQ.out], ?_⟩
    · simp [results, Try.results27, go_sem, cA]
    · have b01 := (((Below.refl _ w).alloc (Nat.le_refl _) (.cells #[.int .i64 s] 25)).alloc (by simp) (.cells #[.int .i64 0] 25)).trans (B1.out.mono (by simp; omega))
      exact (((b01.trans (B2.out.mono (by omega))).alloc (by omega) _).setCell (p := ⟨w.heap.size + 1, 0, none⟩) (by simp) _).drew

end Go.Proofs.Ytbpefenbpfaeaaa

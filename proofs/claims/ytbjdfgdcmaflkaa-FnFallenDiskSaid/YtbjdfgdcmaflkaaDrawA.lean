/-
  The model's draw of some row, also a long or a bad one, in new memory.
-/
import Derived.Test.YtbjdfgdcmaflkaaDrawR
import Derived.Test.YtbjdfgdcmaflkaaDrawF
namespace Go.Proofs.Ytbjdfgdcmaflkaa
open Go.RowKit

set_option maxHeartbeats 1600000 in
theorem drawAny_any (B p : Nat) (w : World) (h : Cur w B p) :
    Calls Try.prog 73 #[.pointer (some ⟨p, 0, none⟩)] w (DrawnRow w B p) := by
  have hp := h.lt
  go_enter Try.func73, Try.ntmps73
  go_wp2_with fail
  refine (drawRow_any7 B p _ h).mono ?_
  rintro e w1 ⟨A, n, c, xs, rfl, o1, hn, c1, g1⟩
  go_wp2_with fail
  refine (once_any B p _ c1 6 (by omega) (by omega)).mono ?_
  rintro e w2 ⟨b, rfl, c2, g2⟩
  have o2 := o1.kept g2 (fun j hj => by injection hj with hj; omega)
  have g02 := g1.trans g2
  clear o1 c1 g1 g2
  cases b
  · go_wp2
    go_ret
    exact ⟨A, n, c, xs, rfl, o2, by omega, c2, g02⟩
  · go_wp2_with fail
    refine (below_any B p _ c2 3 (by omega) (by omega)).mono ?_
    rintro e w3 ⟨x, ⟨x0, x1⟩, rfl, c3, g3⟩
    have o3 := o2.kept g3 (fun j hj => by injection hj with hj; omega)
    have g03 := g02.trans g3
    clear o2 c2 g02 g3 h
    rcases (show x = 0 ∨ x = 1 ∨ x = 2 from by omega) with rfl | rfl | rfl
    · go_wp2_with fail
      refine (num_any B p _ c3 1000000000 (by omega) (by omega)).mono ?_
      rintro e w4 ⟨y, _, rfl, c4, g4⟩
      have o4 := o3.kept g4 (fun j hj => by injection hj with hj; omega)
      have g04 := g03.trans g4
      have o4' := o4.below ((Below.refl _ w4).alloc (Nat.le_refl _) (.cells #[.int .i64 y] 2))
      have r4 := (own_one w4 y).irow
      have zb : w.heap.size ≤ (w4.alloc (.cells #[.int .i64 y] 2)).heap.size := by have := g04.size; simp; omega
      clear o3 c3 g03 g4
      go_wp2_with (first
        | (at_builtin
           refine wpList_append_ints rfl (.tmp 12) (.tmp 15) rfl rfl o4' rfl r4 zb (by omega) ?_
           intro A5 c5 w5 o5 g5 e5))
      have R := push_ints c4 hp g04 o4 g5 rfl
      go_ret
      exact ⟨A5, n + 1, c5, _, rfl, o5, by omega, R.1, R.2⟩
    · go_wp2_with fail
      refine (from_any B p _ c3 (-1) 1 (by omega) (by omega) (by omega)).mono ?_
      rintro e w4 ⟨y, ⟨y0, y1⟩, rfl, c4, g4⟩
      have g04 := g03.trans g4
      obtain ⟨k, hk⟩ := Int.eq_ofNat_of_zero_le (show 0 ≤ 48 + y by omega)
      have hmk := run_make_row' (P := Try.prog) 28 2 (.int .i64 0) 8 Try.underlying28 info64 rfl .i64 .i64 k (by omega) (by omega)
      rw [← hk] at hmk
      have ho : Own (w4.alloc (.cells (madeCells #[.int .i64 0] k) 2)) w4.heap.size (some ⟨w4.heap.size, 0, none⟩) k k (List.replicate k 0) := by
        have := World.ownsRow_lit (base := w4.heap.size) (e := 2) (size := 1) w4 (madeCells #[.int .i64 0] k) k (Nat.le_refl _) (by simp only [maxLen]; omega) (by rw [size_madeCells]; omega)
        rw [toList_madeCells_one] at this
        simpa [Own, ivals] using this
      have HO := Lib.hid ho
      have HC := Lib.hid (cur_alloc c4 (.cells (madeCells #[.int .i64 0] k) 2))
      have HG := Lib.hid (g04.trans (World.grownBy_alloc w4 (.cells (madeCells #[.int .i64 0] k) 2) (some p)))
      have k49 : k ≤ 49 := by omega
      have HZ := Lib.hid g04.size
      clear o3 c3 g03 g4 ho c4 g04 hk
      go_wp2
      go_ret
      exact ⟨_, k, k, _, rfl, HO.out.up HZ.out, by omega, HC.out, HG.out⟩
    · go_wp2_with fail
      refine (odd_any B p _ c3).mono ?_
      rintro e w4 ⟨y, _, rfl, c4, g4⟩
      have o4 := o3.kept g4 (fun j hj => by injection hj with hj; omega)
      have g04 := g03.trans g4
      have o4' := o4.below ((Below.refl _ w4).alloc (Nat.le_refl _) (.cells #[.int .i64 y] 2))
      have r4 := (own_one w4 y).irow
      have zb : w.heap.size ≤ (w4.alloc (.cells #[.int .i64 y] 2)).heap.size := by have := g04.size; simp; omega
      clear o3 c3 g03 g4
      go_wp2_with (first
        | (at_builtin
           refine wpList_append_ints rfl (.tmp 25) (.tmp 28) rfl rfl o4' rfl r4 zb (by omega) ?_
           intro A5 c5 w5 o5 g5 e5))
      have R := push_ints c4 hp g04 o4 g5 rfl
      go_ret
      exact ⟨A5, n + 1, c5, _, rfl, o5, by omega, R.1, R.2⟩

end Go.Proofs.Ytbjdfgdcmaflkaa

/-
  The program's copy of a row into new memory.
-/
import Derived.Test.YtejcpoidoekleaaCopyB
namespace Go.Proofs.Ytejcpoidoekleaa
set_option maxRecDepth 100000
open Go.RowKit

set_option maxHeartbeats 400000 in
theorem iCopy_any (A : Option Addr) (n c : Nat) (xs : List Int) (w : World) (h : IRow w w.heap.size A n xs) (hn : n ≤ 1048577) :
    Calls Try.prog 89 #[.slice A n c] w (MadeRow w xs) := by
  have hmk := run_make_row' (P := Try.prog) 35 2 (.int .i64 0) 8 Try.underlying35 info64 rfl .i64 .i64 n (by omega) (by omega)
  have ho : Own (w.alloc (.cells (madeCells #[.int .i64 0] n) 2)) w.heap.size (some ⟨w.heap.size, 0, none⟩) n n (List.replicate n 0) := by
    have := World.ownsRow_lit (base := w.heap.size) (e := 2) (size := 1) w (madeCells #[.int .i64 0] n) n (Nat.le_refl _) (by simp only [maxLen]; omega) (by rw [size_madeCells]; omega)
    rw [toList_madeCells_one] at this
    simpa [Own, ivals] using this
  have hb : Below w.heap.size w (w.alloc (.cells (madeCells #[.int .i64 0] n) 2)) := (Below.refl _ _).alloc (Nat.le_refl _) _
  have hr := h.below hb
  go_enter Try.func89, Try.ntmps89
  go_wp2_with (with_reducible refine wpList_copy_ints rfl (.tmp 7) (.tmp 8) rfl rfl ho rfl hr (Nat.le_refl _) (by simp only [maxLen]; omega) hb ?_; intro w1 o1 b1)
  go_ret
  refine ⟨_, n, n, rfl, ?_, b1⟩
  have := o1
  rw [List.drop_eq_nil_of_le (by simp), List.append_nil] at this
  exact this

end Go.Proofs.Ytejcpoidoekleaa

/-
  The two ways in which a row is copied into new memory: by the model (append to an empty slice) and by the program (make and copy).
-/
import Derived.Test.YtooahggehgkcdaaMem
namespace Go.Proofs.Ytooahggehgkcdaa
open Go.RowKit

/-- A new slice of the numbers xs is handed back; what was there is as it was. -/
def MadeRow (w : World) (xs : List Int) (e : Ending) (w' : World) : Prop :=
  ∃ A n c, e = .returned (.slice A n c) ∧ Own w' w.heap.size A n c xs ∧ Below w.heap.size w w'

theorem own_empty (w : World) : Own (w.alloc (.cells #[] 2)) w.heap.size (some ⟨w.heap.size, 0, none⟩) 0 0 [] := by
  have := World.ownsRow_lit (base := w.heap.size) (e := 2) (size := 1) w #[] 0 (Nat.le_refl _) (Nat.zero_le _) rfl
  simpa [Own, ivals] using this

theorem own_one (w : World) (x : Int) : Own (w.alloc (.cells #[.int .i64 x] 2)) w.heap.size (some ⟨w.heap.size, 0, none⟩) 1 1 [x] := by
  have := World.ownsRow_lit (base := w.heap.size) (e := 2) (size := 1) w #[.int .i64 x] 1 (Nat.le_refl _) (by decide) rfl
  simpa [Own, ivals] using this

set_option maxHeartbeats 400000 in
theorem sCopy_any (A : Option Addr) (n c : Nat) (xs : List Int) (w : World) (h : IRow w w.heap.size A n xs) (hn : n ≤ 1048577) :
    Calls Try.prog 56 #[.slice A n c] w (MadeRow w xs) := by
  have ho := own_empty w
  have hb : Below w.heap.size w (w.alloc (.cells #[] 2)) := (Below.refl _ _).alloc (Nat.le_refl _) _
  have hr := h.below hb
  go_enter Try.func56, Try.ntmps56
  go_wp2_with (first
    | (at_builtin
       refine wpList_append_ints rfl (.tmp 3) (.tmp 4) rfl rfl ho rfl hr hb.size (by omega) ?_
       intro A2 c2 w1 o1 g1 e1))
  go_ret
  refine ⟨A2, n, c2, rfl, by simpa using o1, hb.grown g1 hb.size (fun k hk => ?_)⟩
  simp [Value.ownBlock] at hk
  omega

set_option maxHeartbeats 400000 in
theorem iCopy_any (A : Option Addr) (n c : Nat) (xs : List Int) (w : World) (h : IRow w w.heap.size A n xs) (hn : n ≤ 1048577) :
    Calls Try.prog 46 #[.slice A n c] w (MadeRow w xs) := by
  have hmk := run_make_row' (P := Try.prog) 24 2 (.int .i64 0) 8 Try.underlying24 info64 rfl .i64 .i64 n (by omega) (by omega)
  have ho : Own (w.alloc (.cells (madeCells #[.int .i64 0] n) 2)) w.heap.size (some ⟨w.heap.size, 0, none⟩) n n (List.replicate n 0) := by
    have := World.ownsRow_lit (base := w.heap.size) (e := 2) (size := 1) w (madeCells #[.int .i64 0] n) n (Nat.le_refl _) (by simp only [maxLen]; omega) (by rw [size_madeCells]; omega)
    rw [toList_madeCells_one] at this
    simpa [Own, ivals] using this
  have hb : Below w.heap.size w (w.alloc (.cells (madeCells #[.int .i64 0] n) 2)) := (Below.refl _ _).alloc (Nat.le_refl _) _
  have hr := h.below hb
  go_enter Try.func46, Try.ntmps46
  go_wp2_with (with_reducible refine wpList_copy_ints rfl (.tmp 7) (.tmp 8) rfl rfl ho rfl hr (Nat.le_refl _) (by simp only [maxLen]; omega) hb ?_; intro w1 o1 b1)
  go_ret
  refine ⟨_, n, n, rfl, ?_, b1⟩
  have := o1
  rw [List.drop_eq_nil_of_le (by simp), List.append_nil] at this
  exact this

end Go.Proofs.Ytooahggehgkcdaa

/-
  Chapter 7: operations and their rows, of the program (by program, wip/gen/genenti2.py).
-/
import Derived.Test.YtifgcnicojpabaaEntI1
import Derived.Test.YtifgcnicojpabaaEntL
import Derived.RegionTactic
import Derived.BigQuiet
namespace Go.Proofs.Ytifgcnicojpabaa
set_option maxRecDepth 100000
open Go.RowKit

theorem iOpOk_any (x0 x1 x2 x3 x4 : Int) (w : World) :
    Calls Try.prog 53 #[.agg #[.int .i64 x0, .int .i64 x1, .int .i64 x2, .int .i64 x3, .int .i64 x4]] w fun e w' => e = .returned (.bool (opB ⟨x0, x1, x2, x3, x4⟩)) ∧ Below w.heap.size w w' := by
  have S := Sep.nil w w.heap.size
  have c := Below.refl w.heap.size w
  replace S := S.boxAt c.size (w.heap.size) rfl #[.int .i64 x0, .int .i64 x1, .int .i64 x2, .int .i64 x3, .int .i64 x4] 27
  replace c := c.alloc c.size (.cells #[.int .i64 x0, .int .i64 x1, .int .i64 x2, .int .i64 x3, .int .i64 x4] 27)
  go_enter Try.func53, Try.ntmps53
  have f0 : (w.alloc (.cells #[.int .i64 x0, .int .i64 x1, .int .i64 x2, .int .i64 x3, .int .i64 x4] 27)).cell? ⟨w.heap.size, 0, none⟩ = some (.int .i64 x0) := (S.at_ 0 rfl).cell 0
  have f1 : (w.alloc (.cells #[.int .i64 x0, .int .i64 x1, .int .i64 x2, .int .i64 x3, .int .i64 x4] 27)).cell? ⟨w.heap.size, 1, none⟩ = some (.int .i64 x1) := (S.at_ 0 rfl).cell 1
  have f2 : (w.alloc (.cells #[.int .i64 x0, .int .i64 x1, .int .i64 x2, .int .i64 x3, .int .i64 x4] 27)).cell? ⟨w.heap.size, 2, none⟩ = some (.int .i64 x2) := (S.at_ 0 rfl).cell 2
  have f3 : (w.alloc (.cells #[.int .i64 x0, .int .i64 x1, .int .i64 x2, .int .i64 x3, .int .i64 x4] 27)).cell? ⟨w.heap.size, 3, none⟩ = some (.int .i64 x3) := (S.at_ 0 rfl).cell 3
  have f4 : (w.alloc (.cells #[.int .i64 x0, .int .i64 x1, .int .i64 x2, .int .i64 x3, .int .i64 x4] 27)).cell? ⟨w.heap.size, 4, none⟩ = some (.int .i64 x4) := (S.at_ 0 rfl).cell 4
  go_wp2_with fail
  generalize w.alloc (.cells #[.int .i64 x0, .int .i64 x1, .int .i64 x2, .int .i64 x3, .int .i64 x4] 27) = w1 at *
  refine (iFits_any x0 x1 x2 x3 x4 _).mono ?_
  rintro e w2 ⟨rfl, b⟩
  replace c := c.trans (b.mono c.size)
  replace S := S.keep b
  clear b f0 f1 f2 f3 f4
  have C := Lib.hid c
  clear S c
  go_wp2
  go_ret
  exact ⟨rfl, C.out⟩

theorem has_nil_rowE (w : World) (base : Nat) : Has w base (rowCells []) [.slice none 0 0] := ⟨[], ow_nil_row w, List.nodup_nil, fun p hp => by cases hp⟩
end Go.Proofs.Ytifgcnicojpabaa

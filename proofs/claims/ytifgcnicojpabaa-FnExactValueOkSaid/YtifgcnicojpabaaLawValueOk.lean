/-
  The exact law of ValueOk over contracts of the model and of the program (by program, wip/gen/genletl.py).
-/
import Derived.Test.YtifgcnicojpabaaLet
import Derived.RegionTactic
namespace Go.Proofs.Ytifgcnicojpabaa
set_option maxRecDepth 100000
open Go.RowKit

set_option maxHeartbeats 12800000 in
theorem lawValueOk (f : ValueM → Bool)
    (hs : ∀ (x0 x1 x2 x3 x4 : Int) (w : World), Calls Try.prog 18 #[.agg #[.int .i64 x0, .int .i64 x1, .int .i64 x2, .int .i64 x3, .int .i64 x4]] w (fun e w' => e = .returned (.bool (f ⟨x0, x1, x2, x3, x4⟩)) ∧ Below w.heap.size w w'))
    (hi : ∀ (x0 x1 x2 x3 x4 : Int) (w : World), Calls Try.prog 20 #[.agg #[.int .i64 x0, .int .i64 x1, .int .i64 x2, .int .i64 x3, .int .i64 x4]] w (fun e w' => e = .returned (.bool (f ⟨x0, x1, x2, x3, x4⟩)) ∧ Below w.heap.size w w'))
    (x0 x1 x2 x3 x4 : Int) (w : World) :
    Calls Try.prog 6 #[.agg #[.int .i64 x0, .int .i64 x1, .int .i64 x2, .int .i64 x3, .int .i64 x4]] w fun e w' => e = .returned (.bool true) ∧ Below w.heap.size w w' := by
  have SP := Lib.hid hs
  have IM := Lib.hid hi
  clear hs hi
  have S := Sep.nil w w.heap.size
  have c := Below.refl w.heap.size w
  replace S := S.boxAt c.size (w.heap.size) rfl #[.int .i64 x0, .int .i64 x1, .int .i64 x2, .int .i64 x3, .int .i64 x4] 45
  replace c := c.alloc c.size (.cells #[.int .i64 x0, .int .i64 x1, .int .i64 x2, .int .i64 x3, .int .i64 x4] 45)
  go_enter Try.func6, Try.ntmps6
  have f0 : (w.alloc (.cells #[.int .i64 x0, .int .i64 x1, .int .i64 x2, .int .i64 x3, .int .i64 x4] 45)).cell? ⟨w.heap.size, 0, none⟩ = some (.int .i64 x0) := (S.at_ 0 rfl).cell 0
  have f1 : (w.alloc (.cells #[.int .i64 x0, .int .i64 x1, .int .i64 x2, .int .i64 x3, .int .i64 x4] 45)).cell? ⟨w.heap.size, 1, none⟩ = some (.int .i64 x1) := (S.at_ 0 rfl).cell 1
  have f2 : (w.alloc (.cells #[.int .i64 x0, .int .i64 x1, .int .i64 x2, .int .i64 x3, .int .i64 x4] 45)).cell? ⟨w.heap.size, 2, none⟩ = some (.int .i64 x2) := (S.at_ 0 rfl).cell 2
  have f3 : (w.alloc (.cells #[.int .i64 x0, .int .i64 x1, .int .i64 x2, .int .i64 x3, .int .i64 x4] 45)).cell? ⟨w.heap.size, 3, none⟩ = some (.int .i64 x3) := (S.at_ 0 rfl).cell 3
  have f4 : (w.alloc (.cells #[.int .i64 x0, .int .i64 x1, .int .i64 x2, .int .i64 x3, .int .i64 x4] 45)).cell? ⟨w.heap.size, 4, none⟩ = some (.int .i64 x4) := (S.at_ 0 rfl).cell 4
  go_wp2_with fail
  generalize w.alloc (.cells #[.int .i64 x0, .int .i64 x1, .int .i64 x2, .int .i64 x3, .int .i64 x4] 45) = w1 at *
  refine (toValue_any x0 x1 x2 x3 x4 _).mono ?_
  rintro e w2 ⟨rfl, b⟩
  replace c := c.trans (b.mono c.size)
  replace S := S.keep b
  clear b f0 f1 f2 f3 f4
  go_wp2_with fail
  refine (SP.out x0 x1 x2 x3 x4 _).mono ?_
  rintro e w3 ⟨rfl, b⟩
  replace c := c.trans (b.mono c.size)
  replace S := S.keep b
  clear b
  have f5 : w3.cell? ⟨w.heap.size, 0, none⟩ = some (.int .i64 x0) := (S.at_ 0 rfl).cell 0
  have f6 : w3.cell? ⟨w.heap.size, 1, none⟩ = some (.int .i64 x1) := (S.at_ 0 rfl).cell 1
  have f7 : w3.cell? ⟨w.heap.size, 2, none⟩ = some (.int .i64 x2) := (S.at_ 0 rfl).cell 2
  have f8 : w3.cell? ⟨w.heap.size, 3, none⟩ = some (.int .i64 x3) := (S.at_ 0 rfl).cell 3
  have f9 : w3.cell? ⟨w.heap.size, 4, none⟩ = some (.int .i64 x4) := (S.at_ 0 rfl).cell 4
  go_wp2_with fail
  refine (toValue_any x0 x1 x2 x3 x4 _).mono ?_
  rintro e w4 ⟨rfl, b⟩
  replace c := c.trans (b.mono c.size)
  replace S := S.keep b
  clear b f5 f6 f7 f8 f9
  go_wp2_with fail
  refine (IM.out x0 x1 x2 x3 x4 _).mono ?_
  rintro e w5 ⟨rfl, b⟩
  replace c := c.trans (b.mono c.size)
  replace S := S.keep b
  clear b
  generalize f ⟨x0, x1, x2, x3, x4⟩ = r at *
  have C := Lib.hid c
  clear S c
  cases r
  all_goals
    go_wp2
    go_ret
    exact ⟨rfl, C.out⟩

end Go.Proofs.Ytifgcnicojpabaa

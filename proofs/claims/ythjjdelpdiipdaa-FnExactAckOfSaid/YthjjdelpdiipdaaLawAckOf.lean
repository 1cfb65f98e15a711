/-
  The exact law of AckOf over contracts of the model and of the program (by program, wip/gen/genlog1.py).
-/
import Derived.Test.YthjjdelpdiipdaaLet
import Derived.RegionTactic
namespace Go.Proofs.Ythjjdelpdiipdaa
set_option maxRecDepth 100000
open Go.RowKit

set_option maxHeartbeats 12800000 in
theorem lawAckOf (f : EntM → AckM)
    (hs : ∀ (x0 x1 x2 x3 x4 x5 x6 x7 x8 : Int) (w : World), Calls Try.prog 5 #[.agg #[.int .i64 x0, .int .i64 x1, .int .i64 x2, .int .i64 x3, .int .i64 x4, .int .i64 x5, .int .i64 x6, .int .i64 x7, .int .i64 x8]] w (fun e w' => e = .returned (.agg #[.int .i64 (f ⟨x0, x1, x2, x3, x4, x5, x6, x7, x8⟩).cl, .int .i64 (f ⟨x0, x1, x2, x3, x4, x5, x6, x7, x8⟩).sq, .int .i64 (f ⟨x0, x1, x2, x3, x4, x5, x6, x7, x8⟩).ix, .int .i64 (f ⟨x0, x1, x2, x3, x4, x5, x6, x7, x8⟩).last]) ∧ Below w.heap.size w w'))
    (hi : ∀ (x0 x1 x2 x3 x4 x5 x6 x7 x8 : Int) (w : World), Calls Try.prog 7 #[.agg #[.int .i64 x0, .int .i64 x1, .int .i64 x2, .int .i64 x3, .int .i64 x4, .int .i64 x5, .int .i64 x6, .int .i64 x7, .int .i64 x8]] w (fun e w' => e = .returned (.agg #[.int .i64 (f ⟨x0, x1, x2, x3, x4, x5, x6, x7, x8⟩).cl, .int .i64 (f ⟨x0, x1, x2, x3, x4, x5, x6, x7, x8⟩).sq, .int .i64 (f ⟨x0, x1, x2, x3, x4, x5, x6, x7, x8⟩).ix, .int .i64 (f ⟨x0, x1, x2, x3, x4, x5, x6, x7, x8⟩).last]) ∧ Below w.heap.size w w'))
    (x0 x1 x2 x3 x4 x5 x6 x7 x8 : Int) (w : World) :
    Calls Try.prog 3 #[.agg #[.int .i64 x0, .int .i64 x1, .int .i64 x2, .int .i64 x3, .int .i64 x4, .int .i64 x5, .int .i64 x6, .int .i64 x7, .int .i64 x8]] w fun e w' => e = .returned (.bool true) ∧ Below w.heap.size w w' := by
  have SP := Lib.hid hs
  have IM := Lib.hid hi
  clear hs hi
  have S := Sep.nil w w.heap.size
  have c := Below.refl w.heap.size w
  replace S := S.boxAt c.size (w.heap.size) rfl #[.int .i64 x0, .int .i64 x1, .int .i64 x2, .int .i64 x3, .int .i64 x4, .int .i64 x5, .int .i64 x6, .int .i64 x7, .int .i64 x8] 25
  replace c := c.alloc c.size (.cells #[.int .i64 x0, .int .i64 x1, .int .i64 x2, .int .i64 x3, .int .i64 x4, .int .i64 x5, .int .i64 x6, .int .i64 x7, .int .i64 x8] 25)
  go_enter Try.func3, Try.ntmps3
  obtain ⟨r0, hr0⟩ : ∃ r, r = (f ⟨x0, x1, x2, x3, x4, x5, x6, x7, x8⟩).cl := ⟨_, rfl⟩
  have HR0 := Lib.hid hr0
  obtain ⟨r1, hr1⟩ : ∃ r, r = (f ⟨x0, x1, x2, x3, x4, x5, x6, x7, x8⟩).sq := ⟨_, rfl⟩
  have HR1 := Lib.hid hr1
  obtain ⟨r2, hr2⟩ : ∃ r, r = (f ⟨x0, x1, x2, x3, x4, x5, x6, x7, x8⟩).ix := ⟨_, rfl⟩
  have HR2 := Lib.hid hr2
  obtain ⟨r3, hr3⟩ : ∃ r, r = (f ⟨x0, x1, x2, x3, x4, x5, x6, x7, x8⟩).last := ⟨_, rfl⟩
  have HR3 := Lib.hid hr3
  clear hr0 hr1 hr2 hr3
  have f0 : (w.alloc (.cells #[.int .i64 x0, .int .i64 x1, .int .i64 x2, .int .i64 x3, .int .i64 x4, .int .i64 x5, .int .i64 x6, .int .i64 x7, .int .i64 x8] 25)).cell? ⟨w.heap.size, 0, none⟩ = some (.int .i64 x0) := (S.at_ 0 rfl).cell 0
  have f1 : (w.alloc (.cells #[.int .i64 x0, .int .i64 x1, .int .i64 x2, .int .i64 x3, .int .i64 x4, .int .i64 x5, .int .i64 x6, .int .i64 x7, .int .i64 x8] 25)).cell? ⟨w.heap.size, 1, none⟩ = some (.int .i64 x1) := (S.at_ 0 rfl).cell 1
  have f2 : (w.alloc (.cells #[.int .i64 x0, .int .i64 x1, .int .i64 x2, .int .i64 x3, .int .i64 x4, .int .i64 x5, .int .i64 x6, .int .i64 x7, .int .i64 x8] 25)).cell? ⟨w.heap.size, 2, none⟩ = some (.int .i64 x2) := (S.at_ 0 rfl).cell 2
  have f3 : (w.alloc (.cells #[.int .i64 x0, .int .i64 x1, .int .i64 x2, .int .i64 x3, .int .i64 x4, .int .i64 x5, .int .i64 x6, .int .i64 x7, .int .i64 x8] 25)).cell? ⟨w.heap.size, 3, none⟩ = some (.int .i64 x3) := (S.at_ 0 rfl).cell 3
  have f4 : (w.alloc (.cells #[.int .i64 x0, .int .i64 x1, .int .i64 x2, .int .i64 x3, .int .i64 x4, .int .i64 x5, .int .i64 x6, .int .i64 x7, .int .i64 x8] 25)).cell? ⟨w.heap.size, 4, none⟩ = some (.int .i64 x4) := (S.at_ 0 rfl).cell 4
  have f5 : (w.alloc (.cells #[.int .i64 x0, .int .i64 x1, .int .i64 x2, .int .i64 x3, .int .i64 x4, .int .i64 x5, .int .i64 x6, .int .i64 x7, .int .i64 x8] 25)).cell? ⟨w.heap.size, 5, none⟩ = some (.int .i64 x5) := (S.at_ 0 rfl).cell 5
  have f6 : (w.alloc (.cells #[.int .i64 x0, .int .i64 x1, .int .i64 x2, .int .i64 x3, .int .i64 x4, .int .i64 x5, .int .i64 x6, .int .i64 x7, .int .i64 x8] 25)).cell? ⟨w.heap.size, 6, none⟩ = some (.int .i64 x6) := (S.at_ 0 rfl).cell 6
  have f7 : (w.alloc (.cells #[.int .i64 x0, .int .i64 x1, .int .i64 x2, .int .i64 x3, .int .i64 x4, .int .i64 x5, .int .i64 x6, .int .i64 x7, .int .i64 x8] 25)).cell? ⟨w.heap.size, 7, none⟩ = some (.int .i64 x7) := (S.at_ 0 rfl).cell 7
  have f8 : (w.alloc (.cells #[.int .i64 x0, .int .i64 x1, .int .i64 x2, .int .i64 x3, .int .i64 x4, .int .i64 x5, .int .i64 x6, .int .i64 x7, .int .i64 x8] 25)).cell? ⟨w.heap.size, 8, none⟩ = some (.int .i64 x8) := (S.at_ 0 rfl).cell 8
  go_wp2_with fail
  generalize w.alloc (.cells #[.int .i64 x0, .int .i64 x1, .int .i64 x2, .int .i64 x3, .int .i64 x4, .int .i64 x5, .int .i64 x6, .int .i64 x7, .int .i64 x8] 25) = w1 at *
  refine (toEntry_any x0 x1 x2 x3 x4 x5 x6 x7 x8 _).mono ?_
  rintro e w2 ⟨rfl, b⟩
  replace c := c.trans (b.mono c.size)
  replace S := S.keep b
  clear b f0 f1 f2 f3 f4 f5 f6 f7 f8
  go_wp2_with fail
  refine (SP.out x0 x1 x2 x3 x4 x5 x6 x7 x8 _).mono ?_
  rintro e w3 ⟨rfl, b⟩
  replace c := c.trans (b.mono c.size)
  replace S := S.keep b
  clear b
  rw [← HR0.out, ← HR1.out, ← HR2.out, ← HR3.out]
  replace S := S.boxAt c.size (w3.heap.size) rfl #[.int .i64 r0, .int .i64 r1, .int .i64 r2, .int .i64 r3] 27
  replace c := c.alloc c.size (.cells #[.int .i64 r0, .int .i64 r1, .int .i64 r2, .int .i64 r3] 27)
  have f9 : (w3.alloc (.cells #[.int .i64 r0, .int .i64 r1, .int .i64 r2, .int .i64 r3] 27)).cell? ⟨w.heap.size, 0, none⟩ = some (.int .i64 x0) := (S.at_ 1 rfl).cell 0
  have f10 : (w3.alloc (.cells #[.int .i64 r0, .int .i64 r1, .int .i64 r2, .int .i64 r3] 27)).cell? ⟨w.heap.size, 1, none⟩ = some (.int .i64 x1) := (S.at_ 1 rfl).cell 1
  have f11 : (w3.alloc (.cells #[.int .i64 r0, .int .i64 r1, .int .i64 r2, .int .i64 r3] 27)).cell? ⟨w.heap.size, 2, none⟩ = some (.int .i64 x2) := (S.at_ 1 rfl).cell 2
  have f12 : (w3.alloc (.cells #[.int .i64 r0, .int .i64 r1, .int .i64 r2, .int .i64 r3] 27)).cell? ⟨w.heap.size, 3, none⟩ = some (.int .i64 x3) := (S.at_ 1 rfl).cell 3
  have f13 : (w3.alloc (.cells #[.int .i64 r0, .int .i64 r1, .int .i64 r2, .int .i64 r3] 27)).cell? ⟨w.heap.size, 4, none⟩ = some (.int .i64 x4) := (S.at_ 1 rfl).cell 4
  have f14 : (w3.alloc (.cells #[.int .i64 r0, .int .i64 r1, .int .i64 r2, .int .i64 r3] 27)).cell? ⟨w.heap.size, 5, none⟩ = some (.int .i64 x5) := (S.at_ 1 rfl).cell 5
  have f15 : (w3.alloc (.cells #[.int .i64 r0, .int .i64 r1, .int .i64 r2, .int .i64 r3] 27)).cell? ⟨w.heap.size, 6, none⟩ = some (.int .i64 x6) := (S.at_ 1 rfl).cell 6
  have f16 : (w3.alloc (.cells #[.int .i64 r0, .int .i64 r1, .int .i64 r2, .int .i64 r3] 27)).cell? ⟨w.heap.size, 7, none⟩ = some (.int .i64 x7) := (S.at_ 1 rfl).cell 7
  have f17 : (w3.alloc (.cells #[.int .i64 r0, .int .i64 r1, .int .i64 r2, .int .i64 r3] 27)).cell? ⟨w.heap.size, 8, none⟩ = some (.int .i64 x8) := (S.at_ 1 rfl).cell 8
  go_wp2_with fail
  generalize w3.alloc (.cells #[.int .i64 r0, .int .i64 r1, .int .i64 r2, .int .i64 r3] 27) = w4 at *
  refine (toEntry_any x0 x1 x2 x3 x4 x5 x6 x7 x8 _).mono ?_
  rintro e w5 ⟨rfl, b⟩
  replace c := c.trans (b.mono c.size)
  replace S := S.keep b
  clear b f9 f10 f11 f12 f13 f14 f15 f16 f17
  go_wp2_with fail
  refine (IM.out x0 x1 x2 x3 x4 x5 x6 x7 x8 _).mono ?_
  rintro e w6 ⟨rfl, b⟩
  replace c := c.trans (b.mono c.size)
  replace S := S.keep b
  clear b
  rw [← HR0.out, ← HR1.out, ← HR2.out, ← HR3.out]
  replace S := S.boxAt c.size (w6.heap.size) rfl #[.int .i64 r0, .int .i64 r1, .int .i64 r2, .int .i64 r3] 27
  replace c := c.alloc c.size (.cells #[.int .i64 r0, .int .i64 r1, .int .i64 r2, .int .i64 r3] 27)
  have f18 : (w6.alloc (.cells #[.int .i64 r0, .int .i64 r1, .int .i64 r2, .int .i64 r3] 27)).cell? ⟨w6.heap.size, 0, none⟩ = some (.int .i64 r0) := (S.at_ 0 rfl).cell 0
  have f19 : (w6.alloc (.cells #[.int .i64 r0, .int .i64 r1, .int .i64 r2, .int .i64 r3] 27)).cell? ⟨w6.heap.size, 1, none⟩ = some (.int .i64 r1) := (S.at_ 0 rfl).cell 1
  have f20 : (w6.alloc (.cells #[.int .i64 r0, .int .i64 r1, .int .i64 r2, .int .i64 r3] 27)).cell? ⟨w6.heap.size, 2, none⟩ = some (.int .i64 r2) := (S.at_ 0 rfl).cell 2
  have f21 : (w6.alloc (.cells #[.int .i64 r0, .int .i64 r1, .int .i64 r2, .int .i64 r3] 27)).cell? ⟨w6.heap.size, 3, none⟩ = some (.int .i64 r3) := (S.at_ 0 rfl).cell 3
  have f22 : (w6.alloc (.cells #[.int .i64 r0, .int .i64 r1, .int .i64 r2, .int .i64 r3] 27)).cell? ⟨w3.heap.size, 0, none⟩ = some (.int .i64 r0) := (S.at_ 1 rfl).cell 0
  have f23 : (w6.alloc (.cells #[.int .i64 r0, .int .i64 r1, .int .i64 r2, .int .i64 r3] 27)).cell? ⟨w3.heap.size, 1, none⟩ = some (.int .i64 r1) := (S.at_ 1 rfl).cell 1
  have f24 : (w6.alloc (.cells #[.int .i64 r0, .int .i64 r1, .int .i64 r2, .int .i64 r3] 27)).cell? ⟨w3.heap.size, 2, none⟩ = some (.int .i64 r2) := (S.at_ 1 rfl).cell 2
  have f25 : (w6.alloc (.cells #[.int .i64 r0, .int .i64 r1, .int .i64 r2, .int .i64 r3] 27)).cell? ⟨w3.heap.size, 3, none⟩ = some (.int .i64 r3) := (S.at_ 1 rfl).cell 3
  go_wp2_with fail
  generalize w6.alloc (.cells #[.int .i64 r0, .int .i64 r1, .int .i64 r2, .int .i64 r3] 27) = w7 at *
  refine (eqAck_one r0 r1 r2 r3 _).mono ?_
  rintro e w8 ⟨rfl, b⟩
  replace c := c.trans (b.mono c.size)
  replace S := S.keep b
  clear b f18 f19 f20 f21 f22 f23 f24 f25
  go_wp2
  go_ret
  exact ⟨rfl, c⟩

end Go.Proofs.Ythjjdelpdiipdaa

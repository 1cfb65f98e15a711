/-
  The exact laws of DiceOk, DiceOf, Rolled and Under answer true, whatever program function meets the model's contract, and write nothing that was there.
-/
import Derived.Test.YtbpefenbpfaeaaaDicS
namespace Go.Proofs.Ytbpefenbpfaeaaa
open Go.RowKit

/-- Block p is a law's box of a generator that came in. -/
def LBox (w : World) (p : Nat) (x : Int) : Prop := w.heap[p]? = some (.cells #[.int .i64 x] 37 (0, 0))
theorem LBox.below {w w' : World} {p B : Nat} {x : Int} (h : LBox w p x) (hb : Below B w w') (hp : p < B) : LBox w' p x := (hb.block p hp).trans h
theorem LBox.cell {w : World} {p : Nat} {x : Int} (h : LBox w p x) : w.cell? ⟨p, 0, none⟩ = some (.int .i64 x) := cell_of_blk h 0
theorem LBox.lt {w : World} {p : Nat} {x : Int} (h : LBox w p x) : p < w.heap.size := by
  unfold LBox at h
  rcases Nat.lt_or_ge p w.heap.size with hlt | hge
  · exact hlt
  · rw [Array.getElem?_eq_none hge] at h; cases h
theorem LBox.new (w : World) (x : Int) : LBox (w.alloc (.cells #[.int .i64 x] 37)) w.heap.size x := heap_alloc_new w _
theorem LBox.alloc {w : World} {p : Nat} {x : Int} (h : LBox w p x) (o : Obj) : LBox (w.alloc o) p x := h.below (new_lt w o) h.lt

set_option maxHeartbeats 800000 in
theorem lawDiceOk (hi : ∀ (s : Int) (w : World), Calls Try.prog 20 #[.agg #[.int .i64 s]] w fun e w' => e = .returned (.bool (diceOk s)) ∧ Below w.heap.size w w') (s : Int) (w : World) :
    Calls Try.prog 5 #[.agg #[.int .i64 s]] w fun e w' => e = .returned (.bool true) ∧ Below w.heap.size w w' := by
  have HI := Lib.hid hi
  have l0 := LBox.new w s
  have b0 := new_lt w (.cells #[.int .i64 s] 37)
  clear hi
  go_enter Try.func5, Try.ntmps5
  go_wp2_with fail
  refine (toDice_any s _).mono ?_
  rintro e w1 ⟨rfl, b1⟩
  have l1 := l0.below b1 l0.lt
  have c1 := b0.trans (b1.mono b0.size)
  go_wp2_with fail
  refine (sDiceOk_any s _).mono ?_
  rintro e w2 ⟨rfl, b2⟩
  have l2 := l1.below b2 l1.lt
  have c2 := c1.trans (b2.mono c1.size)
  have cl := l2.cell
  go_wp2_with fail
  refine (toDice_any s _).mono ?_
  rintro e w3 ⟨rfl, b3⟩
  have c3 := c2.trans (b3.mono c2.size)
  go_wp2_with fail
  refine (HI.out s _).mono ?_
  rintro e w4 ⟨rfl, b4⟩
  have c4 := c3.trans (b4.mono c3.size)
  generalize diceOk s = r
  clear l0 l1 l2 cl
  go_wp2
  go_ret
  exact ⟨rfl, c4⟩

set_option maxHeartbeats 800000 in
theorem lawDiceOf (hi : ∀ (s : Int) (w : World), -9223372036854775808 ≤ s → s ≤ 9223372036854775807 → Calls Try.prog 23 #[.int .i64 s] w fun e w' => e = .returned (.agg #[.int .i64 (s % 999999937)]) ∧ Below w.heap.size w w')
    (s : Int) (w : World) (s0 : -9223372036854775808 ≤ s) (s1 : s ≤ 9223372036854775807) :
    Calls Try.prog 6 #[.int .i64 s] w fun e w' => e = .returned (.bool true) ∧ Below w.heap.size w w' := by
  have HI := Lib.hid (fun w => hi s w s0 s1)
  clear hi s0 s1
  go_enter Try.func6, Try.ntmps6
  go_wp2_with fail
  refine (sDiceOf_any s _).mono ?_
  rintro e w1 ⟨rfl, b1⟩
  generalize hq : s % 999999937 = q
  have HQ := Lib.hid hq
  clear hq
  have x1 := Box.new w1 q
  have c1 := b1.alloc b1.size (.cells #[.int .i64 q] 25)
  go_wp2_with fail
  refine (HI.out _).mono ?_
  rintro e w2 ⟨rfl, b2⟩
  rw [HQ.out]
  have x2 := (x1.below b2 x1.lt).alloc (.cells #[.int .i64 q] 25)
  have y2 := Box.new w2 q
  have c2 := c1.trans (b2.mono c1.size)
  have c3 := c2.alloc c2.size (.cells #[.int .i64 q] 25)
  have cx := x2.cell
  have cy := y2.cell
  clear x1 x2 y2
  go_wp2_with fail
  refine (eqDice_yes q _).mono ?_
  rintro e w4 ⟨rfl, b4⟩
  go_wp2
  go_ret
  exact ⟨rfl, c3.trans (b4.mono c3.size)⟩

set_option maxHeartbeats 800000 in
theorem lawRolled (hi : ∀ (s : Int) (w : World), Calls Try.prog 26 #[.agg #[.int .i64 s]] w fun e w' => e = .returned (.tuple #[.agg #[.int .i64 (rolled s).1], .int .i64 (rolled s).2]) ∧ Below w.heap.size w w') (s : Int) (w : World) :
    Calls Try.prog 7 #[.agg #[.int .i64 s]] w fun e w' => e = .returned (.bool true) ∧ Below w.heap.size w w' := by
  have HI := Lib.hid hi
  have l0 := LBox.new w s
  have b0 := new_lt w (.cells #[.int .i64 s] 37)
  clear hi
  go_enter Try.func7, Try.ntmps7
  go_wp2_with fail
  refine (toDice_any s _).mono ?_
  rintro e w1 ⟨rfl, b1⟩
  have l1 := l0.below b1 l0.lt
  have c1 := b0.trans (b1.mono b0.size)
  go_wp2_with fail
  refine (sRolled_any s _).mono ?_
  rintro e w2 ⟨rfl, b2⟩
  obtain ⟨a, ha⟩ : ∃ a, a = (rolled s).1 := ⟨_, rfl⟩
  obtain ⟨b, hb⟩ : ∃ b, b = (rolled s).2 := ⟨_, rfl⟩
  rw [← ha, ← hb]
  have HA := Lib.hid ha
  have HB := Lib.hid hb
  clear ha hb
  have l2 := (l1.below b2 l1.lt).alloc (.cells #[.int .i64 a] 25)
  have c2 := c1.trans (b2.mono c1.size)
  have x2 := Box.new w2 a
  have c2' := c2.alloc c2.size (.cells #[.int .i64 a] 25)
  have cl := l2.cell
  clear l0 l1
  go_wp2_with fail
  refine (toDice_any s _).mono ?_
  rintro e w3 ⟨rfl, b3⟩
  have x3 := x2.below b3 x2.lt
  have c3 := c2'.trans (b3.mono c2'.size)
  go_wp2_with fail
  refine (HI.out s _).mono ?_
  rintro e w4 ⟨rfl, b4⟩
  rw [← HA.out, ← HB.out]
  have x4 := (x3.below b4 x3.lt).alloc (.cells #[.int .i64 a] 25)
  have y4 := Box.new w4 a
  have c4 := c3.trans (b4.mono c3.size)
  have c4' := c4.alloc c4.size (.cells #[.int .i64 a] 25)
  have cx := x4.cell
  have cy := y4.cell
  clear l2 cl x2 x3 x4 y4
  go_wp2_with fail
  refine (eqDice_yes a _).mono ?_
  rintro e w5 ⟨rfl, b5⟩
  go_wp2
  go_ret
  exact ⟨rfl, c4'.trans (b5.mono c4'.size)⟩

set_option maxHeartbeats 800000 in
theorem lawUnder (hi : ∀ (s n : Int) (w : World), Calls Try.prog 16 #[.agg #[.int .i64 s], .int .i64 n] w fun e w' => e = .returned (.tuple #[.agg #[.int .i64 (under s n).1], .int .i64 (under s n).2]) ∧ Below w.heap.size w w') (s n : Int) (w : World) :
    Calls Try.prog 8 #[.agg #[.int .i64 s], .int .i64 n] w fun e w' => e = .returned (.bool true) ∧ Below w.heap.size w w' := by
  have HI := Lib.hid hi
  have l0 := LBox.new w s
  have b0 := new_lt w (.cells #[.int .i64 s] 37)
  clear hi
  go_enter Try.func8, Try.ntmps8
  go_wp2_with fail
  refine (toDice_any s _).mono ?_
  rintro e w1 ⟨rfl, b1⟩
  have l1 := l0.below b1 l0.lt
  have c1 := b0.trans (b1.mono b0.size)
  go_wp2_with fail
  refine (sUnder_any s n _).mono ?_
  rintro e w2 ⟨rfl, b2⟩
  obtain ⟨a, ha⟩ : ∃ a, a = (under s n).1 := ⟨_, rfl⟩
  obtain ⟨b, hb⟩ : ∃ b, b = (under s n).2 := ⟨_, rfl⟩
  rw [← ha, ← hb]
  have HA := Lib.hid ha
  have HB := Lib.hid hb
  clear ha hb
  have l2 := (l1.below b2 l1.lt).alloc (.cells #[.int .i64 a] 25)
  have c2 := c1.trans (b2.mono c1.size)
  have x2 := Box.new w2 a
  have c2' := c2.alloc c2.size (.cells #[.int .i64 a] 25)
  have cl := l2.cell
  clear l0 l1
  go_wp2_with fail
  refine (toDice_any s _).mono ?_
  rintro e w3 ⟨rfl, b3⟩
  have x3 := x2.below b3 x2.lt
  have c3 := c2'.trans (b3.mono c2'.size)
  go_wp2_with fail
  refine (HI.out s n _).mono ?_
  rintro e w4 ⟨rfl, b4⟩
  rw [← HA.out, ← HB.out]
  have x4 := (x3.below b4 x3.lt).alloc (.cells #[.int .i64 a] 25)
  have y4 := Box.new w4 a
  have c4 := c3.trans (b4.mono c3.size)
  have c4' := c4.alloc c4.size (.cells #[.int .i64 a] 25)
  have cx := x4.cell
  have cy := y4.cell
  clear l2 cl x2 x3 x4 y4
  go_wp2_with fail
  refine (eqDice_yes a _).mono ?_
  rintro e w5 ⟨rfl, b5⟩
  go_wp2
  go_ret
  exact ⟨rfl, c4'.trans (b5.mono c4'.size)⟩

end Go.Proofs.Ytbpefenbpfaeaaa

/-
  The exact law of Spread answers true, whatever program function meets the model's contract, and writes nothing that was there.
-/
import Derived.Test.YtbpefenbpfaeaaaLawDic
namespace Go.Proofs.Ytbpefenbpfaeaaa
open Go.RowKit

theorem spread_len (s m n : Int) : (spread s m n).2.length ≤ 64 := by
  unfold spread
  split
  · split
    · rename_i h
      rw [spreadTo_len]
      have := manyOk_iff.1 h.1
      omega
    · simp
  · simp

set_option maxHeartbeats 3200000 in
theorem lawSpread (hi : ∀ (s m n : Int) (w : World), Calls Try.prog 13 #[.agg #[.int .i64 s], .int .i64 m, .int .i64 n] w (MadeDR w (spread s m n))) (s m n : Int) (w : World) :
    Calls Try.prog 9 #[.agg #[.int .i64 s], .int .i64 m, .int .i64 n] w fun e w' => e = .returned (.bool true) ∧ Below w.heap.size w w' := by
  have HI := Lib.hid (fun w => hi s m n w)
  have hs64 := spread_len s m n
  have l0 := LBox.new w s
  have b0 := new_lt w (.cells #[.int .i64 s] 37)
  clear hi
  go_enter Try.func9, Try.ntmps9
  go_wp2_with fail
  refine (toDice_any s _).mono ?_
  rintro e w1 ⟨rfl, b1⟩
  have l1 := l0.below b1 l0.lt
  have c1 := b0.trans (b1.mono b0.size)
  go_wp2_with fail
  refine (sSpread_any s m n _).mono ?_
  rintro e w2 ⟨A2, n2, d2, rfl, o2, b2⟩
  obtain ⟨a, ha⟩ : ∃ a, a = (spread s m n).1 := ⟨_, rfl⟩
  obtain ⟨xs, hxs⟩ : ∃ xs, xs = (spread s m n).2 := ⟨_, rfl⟩
  rw [← ha]
  rw [← hxs] at o2 hs64
  have HA := Lib.hid ha
  have HX := Lib.hid hxs
  clear ha hxs
  have hn2 : n2 ≤ 64 := by rw [← o2.len]; exact hs64
  have r2 := o2.irow
  have l2 := (l1.below b2 l1.lt).alloc (.cells #[.int .i64 a] 25)
  have c2 := c1.trans (b2.mono c1.size)
  have x2 := Box.new w2 a
  have k2 := new_lt w2 (.cells #[.int .i64 a] 25)
  have c2' := c2.trans (k2.mono c2.size)
  have cl := l2.cell
  clear l0 l1
  go_wp2_with fail
  refine (toDice_any s _).mono ?_
  rintro e w3 ⟨rfl, b3⟩
  have x3 := x2.below b3 x2.lt
  have l3 := l2.below b3 l2.lt
  have c3 := c2'.trans (b3.mono c2'.size)
  have k3 := k2.trans (b3.mono k2.size)
  have z3 := x3.lt
  go_wp2_with fail
  refine (HI.out _).mono ?_
  rintro e w4 ⟨A4, n4, d4, rfl, o4, b4⟩
  rw [← HA.out]
  rw [← HX.out] at o4
  obtain rfl : n2 = n4 := by rw [← o2.len, ← o4.len]
  have x4 := (x3.below b4 z3).alloc (.cells #[.int .i64 a] 25)
  have y4 := Box.new w4 a
  have l4 := (l3.below b4 l3.lt).alloc (.cells #[.int .i64 a] 25)
  have q4 := new_lt w4 (.cells #[.int .i64 a] 25)
  have b4' := b4.trans (q4.mono b4.size)
  have c4 := c3.trans (b4'.mono c3.size)
  have k4 := k3.trans (b4'.mono k3.size)
  have o4' := o4.below q4
  have cx := x4.cell
  have cy := y4.cell
  have zl := l3.lt
  clear l2 cl x2 x3 o4
  go_wp2_with fail
  refine (eqDice_yes a _).mono ?_
  rintro e w5 ⟨rfl, b5⟩
  have x5 := x4.below b5 x4.lt
  have l5 := l4.below b5 l4.lt
  have c5 := c4.trans (b5.mono c4.size)
  have k5 := k4.trans (b5.mono k4.size)
  have o5 := o4'.below b5
  clear cx cy y4 x4 l4 o4'
  go_wp2_with fail
  refine (eq_yes _ _ n2 _ _ _ _ xs _ o5.irow (r2.below k5) (by omega)).mono ?_
  rintro e w6 ⟨rfl, d6⟩
  have x6 := x5.below (d6.below _) x5.lt
  have l6 := l5.below (d6.below _) l5.lt
  have c6 := c5.trans (d6.below _)
  have k6 := k5.trans (d6.below _)
  have o6 := o5.drew d6
  clear x5 l5 o5
  go_wp2_with fail
  refine (mark_any _ n2 _ _ _ _ o6 (by omega) 1 (by omega) (by omega)).mono ?_
  rintro e w7 ⟨rfl, o7, g7⟩
  have ge : ∀ p, (Value.slice A4 n2 d4).ownBlock = some p → w3.heap.size ≤ p := fun p hp => (o6.ge p hp).1
  have z36 : w3.heap.size ≤ w6.heap.size := by
    have h1 := b4'.size
    have h2 := b5.size
    have h3 := (d6.below w5.heap.size).size
    omega
  have bg := grown_below g7 z36 ge
  have x7 := x6.below bg z3
  have l7 := l6.below bg zl
  have c7 := c6.grown g7 c6.size (fun p hp => by have := ge p hp; have := c3.size; omega)
  have k7 := k6.grown g7 k6.size (fun p hp => by have := ge p hp; have := k3.size; omega)
  have cl7 := l7.cell
  clear x6 l6 o6
  go_wp2_with fail
  refine (held_any _ n2 _ _ _ 1 o7.irow (by omega) (by omega) (by omega)).mono ?_
  rintro e w7' ⟨rfl, rfl⟩
  go_wp2_with fail
  refine (toDice_any s _).mono ?_
  rintro e w8 ⟨rfl, b8⟩
  have x8 := x7.below b8 x7.lt
  have c8 := c7.trans (b8.mono c7.size)
  have k8 := k7.trans (b8.mono k7.size)
  have o8 := o7.below b8
  clear x7 l7 cl7
  go_wp2_with fail
  refine (HI.out _).mono ?_
  rintro e w9 ⟨A9, n9, d9, rfl, o9, b9⟩
  rw [← HA.out]
  rw [← HX.out] at o9
  obtain rfl : n2 = n9 := by rw [← o2.len, ← o9.len]
  have x9 := (x8.below b9 x8.lt).alloc (.cells #[.int .i64 a] 25)
  have y9 := Box.new w9 a
  have q9 := new_lt w9 (.cells #[.int .i64 a] 25)
  have b9' := b9.trans (q9.mono b9.size)
  have c9 := c8.trans (b9'.mono c8.size)
  have k9 := k8.trans (b9'.mono k8.size)
  have o9' := o9.below q9
  have o89 := o8.below b9'
  have cx9 := x9.cell
  have cy9 := y9.cell
  clear x8 x9 y9 o9
  go_wp2_with fail
  refine (eqDice_yes a _).mono ?_
  rintro e w10 ⟨rfl, b10⟩
  have c10 := c9.trans (b10.mono c9.size)
  have k10 := k9.trans (b10.mono k9.size)
  have o10 := o9'.below b10
  have o810 := o89.below b10
  clear cx9 cy9
  go_wp2_with fail
  refine (eq_yes _ _ n2 _ _ _ _ xs _ o10.irow (r2.below k10) (by omega)).mono ?_
  rintro e w11 ⟨rfl, d11⟩
  have c11 := c10.trans (d11.below _)
  have o811 := o810.drew d11
  go_wp2_with fail
  refine (held_any _ n2 _ _ _ 1 o811.irow (by omega) (by omega) (by omega)).mono ?_
  rintro e w11' ⟨rfl, rfl⟩
  go_wp2
  go_ret
  exact ⟨rfl, c11⟩

end Go.Proofs.Ytbpefenbpfaeaaa

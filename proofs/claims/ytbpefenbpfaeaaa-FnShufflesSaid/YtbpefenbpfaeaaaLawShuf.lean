/-
  The exact law of Shuffled answers true, whatever program function meets the model's contract, and writes nothing that was there.
-/
import Derived.Test.YtbpefenbpfaeaaaLawDic
import Derived.Test.YtbpefenbpfaeaaaDicH
import Derived.Test.YtbpefenbpfaeaaaTo
namespace Go.Proofs.Ytbpefenbpfaeaaa
open Go.RowKit

theorem shufFrom_len : ∀ (i : Nat) (d : Int) (l : List Int), (shufFrom d l i).2.length = l.length := by
  intro i
  induction i with
  | zero => intro d l; rfl
  | succ i ih => intro d l; rw [shufFrom, ih, swapped_len]
theorem shuffled_len (s : Int) (l : List Int) : (shuffled s l).2.length ≤ 64 := by
  unfold shuffled
  split
  · split
    · rename_i h; rw [shufFrom_len]; exact h
    · simp
  · simp

theorem row_of {g n c : Nat} (k : Nat) (h : (Value.slice (some ⟨g, 0, none⟩) n c).ownBlock = some k) : k = g := by
  simp [Value.ownBlock] at h
  exact h.symm

set_option maxHeartbeats 3200000 in
theorem lawShuf (hi : ∀ (s : Int) (A : Option Addr) (n c : Nat) (xs : List Int) (w : World), IRow w w.heap.size A n xs → n ≤ 1048577 → n ≤ c → Calls Try.prog 18 #[.agg #[.int .i64 s], .slice A n c] w (MadeDR w (shuffled s xs)))
    (s : Int) (A : Option Addr) (n c : Nat) (xs : List Int) (w : World) (h : IRow w w.heap.size A n xs) (hm : n ≤ maxLen) :
    Calls Try.prog 10 #[.agg #[.int .i64 s], .slice A n c] w fun e w' => e = .returned (.bool true) ∧ Below w.heap.size w w' := by
  unfold maxLen at hm
  by_cases hn : 1048576 < n
  · clear h hi
    go_enter Try.func10, Try.ntmps10
    go_wp2
    go_ret
    exact ⟨rfl, new_lt _ _⟩
  have HI := Lib.hid (fun A n c w => hi s A n c xs w)
  have hs64 := shuffled_len s xs
  have l0 := LBox.new w s
  have b0 := new_lt w (.cells #[.int .i64 s] 37)
  clear hi
  go_enter Try.func10, Try.ntmps10
  go_wp2_with fail
  refine (toDice_any s _).mono ?_
  rintro e w1 ⟨rfl, b1⟩
  have l1 := l0.below b1 l0.lt
  have c1 := b0.trans (b1.mono b0.size)
  go_wp2_with fail
  refine (to_any A n c xs _ ((h.below c1).up c1.size) (by omega)).mono ?_
  rintro e w2 ⟨rfl, o2, b2⟩
  have l2 := l1.below b2 l1.lt
  have c2 := c1.trans (b2.mono c1.size)
  go_wp2_with fail
  refine (sShuf_any s _ n n xs _ o2.irow (by omega)).mono ?_
  rintro e w3 ⟨A3, n3, d3, rfl, o3, b3⟩
  obtain ⟨a, ha⟩ : ∃ a, a = (shuffled s xs).1 := ⟨_, rfl⟩
  obtain ⟨ys, hys⟩ : ∃ ys, ys = (shuffled s xs).2 := ⟨_, rfl⟩
  rw [← ha]
  rw [← hys] at o3 hs64
  have HA := Lib.hid ha
  have HY := Lib.hid hys
  clear ha hys
  have hn3 : n3 ≤ 64 := by rw [← o3.len]; exact hs64
  have hl3 := Lib.hid o3.len
  have r3 := o3.irow
  have l3 := (l2.below b3 l2.lt).alloc (.cells #[.int .i64 a] 25)
  have c3 := c2.trans (b3.mono c2.size)
  have x3 := Box.new w3 a
  have k3 := new_lt w3 (.cells #[.int .i64 a] 25)
  have c3' := c3.trans (k3.mono c3.size)
  have zx3 : w3.heap.size < (w3.alloc (.cells #[.int .i64 a] 25)).heap.size := x3.lt
  clear l0 l1 l2
  go_wp2_with fail
  generalize w3.alloc (.cells #[.int .i64 a] 25) = v3 at *
  refine (to_any A n c xs _ ((h.below c3').up c3'.size) (by omega)).mono ?_
  rintro e w4 ⟨rfl, o4, b4⟩
  have x4 := x3.below b4 x3.lt
  have l4 := l3.below b4 l3.lt
  have c4 := c3'.trans (b4.mono c3'.size)
  have k4 := k3.trans (b4.mono k3.size)
  have zx := x3.lt
  have zl := l3.lt
  have cl := l4.cell
  clear x3 l3
  go_wp2_with fail
  refine (toDice_any s _).mono ?_
  rintro e w5 ⟨rfl, b5⟩
  have x5 := x4.below b5 x4.lt
  have l5 := l4.below b5 l4.lt
  have c5 := c4.trans (b5.mono c4.size)
  have k5 := k4.trans (b5.mono k4.size)
  have o5 := o4.below b5
  clear x4 l4 cl
  go_wp2_with fail
  refine (HI.out _ n n _ o5.irow (by omega) (Nat.le_refl _)).mono ?_
  rintro e w6 ⟨A6, n6, d6, rfl, o6, b6⟩
  rw [← HA.out]
  rw [← HY.out] at o6
  obtain rfl : n3 = n6 := by rw [← hl3.out, ← o6.len]
  have q6 := new_lt w6 (.cells #[.int .i64 a] 25)
  have b6' := b6.trans (q6.mono b6.size)
  have x6 := x5.below b6' x5.lt
  have y6 := Box.new w6 a
  have l6 := l5.below b6' l5.lt
  have c6 := c5.trans (b6'.mono c5.size)
  have k6 := k5.trans (b6'.mono k5.size)
  have o56 := o5.below b6'
  have o66 := o6.below q6
  have cx := x6.cell
  have cy := y6.cell
  have zy := y6.lt
  have z45 := b5.size
  clear x5 l5 o5 o6
  go_wp2_with fail
  refine (eqDice_yes a _).mono ?_
  rintro e w7 ⟨rfl, b7⟩
  have x7 := x6.below b7 x6.lt
  have y7 := y6.below b7 y6.lt
  have l7 := l6.below b7 l6.lt
  have c7 := c6.trans (b7.mono c6.size)
  have k7 := k6.trans (b7.mono k6.size)
  have o57 := o56.below b7
  have o67 := o66.below b7
  clear cx cy x6 y6 l6 o56 o66
  go_wp2_with fail
  refine (eq_yes _ _ n3 _ _ _ _ ys _ o67.irow (r3.below k7) (by omega)).mono ?_
  rintro e w8 ⟨rfl, d8⟩
  have x8 := x7.below (d8.below _) x7.lt
  have y8 := y7.below (d8.below _) y7.lt
  have l8 := l7.below (d8.below _) l7.lt
  have c8 := c7.trans (d8.below _)
  have k8 := k7.trans (d8.below _)
  have o58 := o57.drew d8
  have o68 := o67.drew d8
  clear x7 y7 l7 o57 o67
  go_wp2_with fail
  refine (to_any A n c xs _ ((h.below c8).up c8.size) (by omega)).mono ?_
  rintro e w9 ⟨rfl, o9, b9⟩
  have x9 := x8.below b9 x8.lt
  have y9 := y8.below b9 y8.lt
  have l9 := l8.below b9 l8.lt
  have c9 := c8.trans (b9.mono c8.size)
  have k9 := k8.trans (b9.mono k8.size)
  have o59 := o58.below b9
  have o69 := o68.below b9
  clear x8 y8 l8 o58 o68
  go_wp2_with fail
  refine (eq_yes _ _ n _ _ _ _ xs _ o59.irow o9.irow (by omega)).mono ?_
  rintro e w10 ⟨rfl, d10⟩
  have x10 := x9.below (d10.below _) x9.lt
  have y10 := y9.below (d10.below _) y9.lt
  have l10 := l9.below (d10.below _) l9.lt
  have c10 := c9.trans (d10.below _)
  have k10 := k9.trans (d10.below _)
  have o510 := o59.drew d10
  have o610 := o69.drew d10
  clear x9 y9 l9 o59 o69
  go_wp2_with fail
  refine (mark_any _ n _ _ xs _ o510 (by omega) 1 (by omega) (by omega)).mono ?_
  rintro e w11 ⟨rfl, o511, g11⟩
  have gx := o510.ge
  have zz := (o510.ge _ rfl).2
  have z11 : ∀ k, (Value.slice (some ⟨v3.heap.size, 0, none⟩) n n).ownBlock = some k → k = v3.heap.size := fun k hk => row_of k hk
  have Z11 := Lib.hid z11
  clear z11
  have zw4 : v3.heap.size < w4.heap.size := (o4.ge _ rfl).2
  have bg : Below v3.heap.size w10 w11 := grown_below g11 (Nat.le_of_lt zz) (fun k hk => by have := Z11.out k hk; omega)
  have x11 := x10.below bg zx
  have l11 := l10.below bg zl
  have y11 : Box w11 w6.heap.size a := (g11.block w6.heap.size y10.lt (fun e => by have := Z11.out _ e.symm; have := b6.size; omega)).trans y10
  have c11 := c10.trans (bg.mono c3'.size)
  have k11 := k10.trans (bg.mono k3.size)
  have o611 := o610.kept g11 (fun k hk => by have := Z11.out k hk; omega)
  have cx := x11.cell
  have cy := y11.cell
  clear x10 y10 l10 o510 o610 gx
  go_wp2_with fail
  refine (eqDice_yes a _).mono ?_
  rintro e w12 ⟨rfl, b12⟩
  have x12 := x11.below b12 x11.lt
  have l12 := l11.below b12 l11.lt
  have c12 := c11.trans (b12.mono c11.size)
  have k12 := k11.trans (b12.mono k11.size)
  have o612 := o611.below b12
  clear cx cy x11 y11 l11 o611
  go_wp2_with fail
  refine (eq_yes _ _ n3 _ _ _ _ ys _ o612.irow (r3.below k12) (by omega)).mono ?_
  rintro e w13 ⟨rfl, d13⟩
  have x13 := x12.below (d13.below _) x12.lt
  have l13 := l12.below (d13.below _) l12.lt
  have c13 := c12.trans (d13.below _)
  have k13 := k12.trans (d13.below _)
  have o613 := o612.drew d13
  clear x12 l12 o612
  go_wp2_with fail
  refine (mark_any _ n3 _ _ _ _ o613 (by omega) 1 (by omega) (by omega)).mono ?_
  rintro e w14 ⟨rfl, o614, g14⟩
  have ge : ∀ p, (Value.slice A6 n3 d6).ownBlock = some p → w5.heap.size ≤ p := fun p hp => (o613.ge p hp).1
  have zw : v3.heap.size ≤ w13.heap.size := by
    have h1 := g11.size
    have h2 := b12.size
    have h3 := (d13.below w12.heap.size).size
    omega
  have bh : Below v3.heap.size w13 w14 := grown_below g14 (by omega) (fun k hk => by have := ge k hk; omega)
  have x14 := x13.below bh zx
  have l14 := l13.below bh zl
  have c14 := c13.trans (bh.mono c3'.size)
  have k14 := k13.trans (bh.mono k3.size)
  have cl14 := l14.cell
  clear x13 l13 o613
  go_wp2_with fail
  refine (held_any _ n3 _ _ _ 1 o614.irow (by omega) (by omega) (by omega)).mono ?_
  rintro e w14' ⟨rfl, rfl⟩
  go_wp2_with fail
  refine (toDice_any s _).mono ?_
  rintro e w15 ⟨rfl, b15⟩
  have x15 := x14.below b15 x14.lt
  have c15 := c14.trans (b15.mono c14.size)
  have k15 := k14.trans (b15.mono k14.size)
  have o615 := o614.below b15
  clear x14 l14 cl14
  go_wp2_with fail
  refine (to_any A n c xs _ ((h.below c15).up c15.size) (by omega)).mono ?_
  rintro e w16 ⟨rfl, o16, b16⟩
  have x16 := x15.below b16 x15.lt
  have c16 := c15.trans (b16.mono c15.size)
  have k16 := k15.trans (b16.mono k15.size)
  have o616 := o615.below b16
  clear x15 o615
  go_wp2_with fail
  refine (HI.out _ n n _ o16.irow (by omega) (Nat.le_refl _)).mono ?_
  rintro e w17 ⟨A17, n17, d17, rfl, o17, b17⟩
  rw [← HA.out]
  rw [← HY.out] at o17
  obtain rfl : n3 = n17 := by rw [← hl3.out, ← o17.len]
  have q17 := new_lt w17 (.cells #[.int .i64 a] 25)
  have b17' := b17.trans (q17.mono b17.size)
  have x17 := x16.below b17' x16.lt
  have y17 := Box.new w17 a
  have c17 := c16.trans (b17'.mono c16.size)
  have k17 := k16.trans (b17'.mono k16.size)
  have o617 := o616.below b17'
  have o177 := o17.below q17
  have cx17 := x17.cell
  have cy17 := y17.cell
  clear x16 x17 y17 o17 o616
  go_wp2_with fail
  refine (eqDice_yes a _).mono ?_
  rintro e w18 ⟨rfl, b18⟩
  have c18 := c17.trans (b18.mono c17.size)
  have k18 := k17.trans (b18.mono k17.size)
  have o618 := o617.below b18
  have o178 := o177.below b18
  clear cx17 cy17
  go_wp2_with fail
  refine (eq_yes _ _ n3 _ _ _ _ ys _ o178.irow (r3.below k18) (by omega)).mono ?_
  rintro e w19 ⟨rfl, d19⟩
  have c19 := c18.trans (d19.below _)
  have o619 := o618.drew d19
  go_wp2_with fail
  refine (held_any _ n3 _ _ _ 1 o619.irow (by omega) (by omega) (by omega)).mono ?_
  rintro e w19' ⟨rfl, rfl⟩
  go_wp2
  go_ret
  exact ⟨rfl, c19⟩

end Go.Proofs.Ytbpefenbpfaeaaa

/-
  The law FnDiceAgain answers true at every slice of bytes, whatever program functions meet the model's contracts, and writes nothing that was there.
-/
import Derived.Test.YtbpefenbpfaeaaaDicD
import Derived.Test.YtbpefenbpfaeaaaLike
import Derived.Test.YtbpefenbpfaeaaaLawSpread
namespace Go.Proofs.Ytbpefenbpfaeaaa
open Go.RowKit

theorem biga_any (A : Option Addr) (n c : Nat) (w : World) :
    Calls Try.prog 11 #[.slice A n c] w fun e w' => e = .returned (.bool (decide (4096 < n))) ∧ w = w' := by
  go_enter Try.func11, Try.ntmps11
  go_wp2
  go_ret
  exact ⟨ret_bool (by simp; omega), rfl⟩

theorem spreadTo_get {s n : Int} {k M : Nat} (h : k < M) : (spreadTo s n M).2.getD k 0 = rollN (spreadTo s n k).1 % n := by
  induction M with
  | zero => omega
  | succ M ih =>
    show ((spreadTo s n M).2 ++ [rollN (spreadTo s n M).1 % n]).getD k 0 = _
    have hl := spreadTo_len s n M
    rcases Nat.lt_or_ge k M with h1 | h1
    · rw [List.getD, List.getElem?_append_left (by omega)]
      exact ih h1
    · have e : k = M := by omega
      subst e
      simp [List.getD, hl]

theorem spread_full {s m n : Int} (h : (spread s m n).2 ≠ []) : ∃ M : Nat, m = (M : Int) ∧ M ≤ 64 ∧ diceOk s = true ∧ nOk n = true ∧ spread s m n = spreadTo s n M := by
  unfold spread at h ⊢
  by_cases h1 : diceOk s = true
  · rw [if_pos h1] at h ⊢
    by_cases h2 : manyOk m = true ∧ nOk n = true
    · rw [if_pos h2] at h ⊢
      obtain ⟨m0, m1⟩ := manyOk_iff.1 h2.1
      exact ⟨m.toNat, by omega, by omega, h1, h2.2, rfl⟩
    · rw [if_neg h2] at h
      exact absurd rfl h
  · rw [if_neg h1] at h
    exact absurd rfl h

set_option maxHeartbeats 3200000 in
theorem lawAgain (hS : ∀ (s m n : Int) (w : World), Calls Try.prog 13 #[.agg #[.int .i64 s], .int .i64 m, .int .i64 n] w (MadeDR w (spread s m n)))
    (hU : ∀ (s n : Int) (w : World), Calls Try.prog 16 #[.agg #[.int .i64 s], .int .i64 n] w fun e w' => e = .returned (.tuple #[.agg #[.int .i64 (under s n).1], .int .i64 (under s n).2]) ∧ Below w.heap.size w w')
    (A : Option Addr) (n c : Nat) (w : World) (h : BRow w w.heap.size A n) (hm : n ≤ maxLen) :
    Calls Try.prog 3 #[.slice A n c] w fun e w' => e = .returned (.bool true) ∧ Below w.heap.size w w' := by
  unfold maxLen at hm
  by_cases hn : 4096 < n
  · clear h hS hU
    go_enter Try.func3, Try.ntmps3
    go_wp2_with fail
    refine (biga_any A n c _).mono ?_
    rintro e w' ⟨rfl, rfl⟩
    rw [decide_eq_true hn]
    go_wp2
    go_ret
    exact ⟨rfl, Below.refl _ _⟩
  have HS := Lib.hid hS
  have HU := Lib.hid hU
  clear hS hU
  go_enter Try.func3, Try.ntmps3
  go_wp2_with fail
  refine (biga_any A n c _).mono ?_
  rintro e w' ⟨rfl, rfl⟩
  rw [decide_eq_false hn]
  go_wp2_with fail
  refine (drawSpread_any A n c _ h (by omega)).mono ?_
  rintro e w1 ⟨s, m, q, rfl, b1⟩
  clear h
  have x1 := Box.new w1 s
  have c1 := b1.alloc b1.size (.cells #[.int .i64 s] 25)
  have z1 := b1.size
  go_wp2_with fail
  generalize hv1 : w1.alloc (.cells #[.int .i64 s] 25) = v1 at *
  clear hv1
  have cx1 := x1.cell
  refine (HS.out s m q _).mono ?_
  rintro e w2 ⟨A2, n2, d2, rfl, o2, b2⟩
  obtain ⟨a, ha⟩ : ∃ a, a = (spread s m q).1 := ⟨_, rfl⟩
  obtain ⟨xs, hxs⟩ : ∃ xs, xs = (spread s m q).2 := ⟨_, rfl⟩
  rw [← ha]
  rw [← hxs] at o2
  have HA := Lib.hid ha
  have HX := Lib.hid hxs
  have hn2 : n2 ≤ 64 := by rw [← o2.len, hxs]; exact spread_len s m q
  have hl2 := Lib.hid o2.len
  clear ha hxs
  have x2 := (x1.below b2 x1.lt).alloc (.cells #[.int .i64 a] 25)
  have y2 := Box.new w2 a
  have k2 := new_lt w2 (.cells #[.int .i64 a] 25)
  have c2 := (c1.trans (b2.mono c1.size)).trans (k2.mono (Nat.le_trans c1.size b2.size))
  have o22 := o2.below k2
  have zz := x1.lt
  have z2 := b2.size
  clear x1 cx1
  have cx2 := x2.cell
  go_wp2_with fail
  have zv2 : w2.heap.size < (w2.alloc (.cells #[.int .i64 a] 25)).heap.size := y2.lt
  generalize hv2 : w2.alloc (.cells #[.int .i64 a] 25) = v2 at *
  clear hv2
  refine (HS.out s m q _).mono ?_
  rintro e w3 ⟨A3, n3, d3, rfl, o3, b3⟩
  rw [← HA.out]
  rw [← HX.out] at o3
  obtain rfl : n2 = n3 := by rw [← hl2.out, ← o3.len]
  have k3 := new_lt w3 (.cells #[.int .i64 a] 25)
  have b3' := b3.trans (k3.mono b3.size)
  have x3 := x2.below b3' x2.lt
  have y3 := y2.below b3' y2.lt
  have f3 := Box.new w3 a
  have c3 := c2.trans (b3'.mono c2.size)
  have o23 := o22.below b3'
  have o3' := o3.below k3
  clear x2 cx2 y2 o3
  have cx3 := x3.cell
  go_wp2_with fail
  have zv3 : w3.heap.size < (w3.alloc (.cells #[.int .i64 a] 25)).heap.size := f3.lt
  have z3 := b3.size
  generalize hv3 : w3.alloc (.cells #[.int .i64 a] 25) = v3 at *
  clear hv3
  refine (sSpread_any s m q _).mono ?_
  rintro e w4 ⟨A4, n4, d4, rfl, o4, b4⟩
  rw [← HA.out]
  rw [← HX.out] at o4
  obtain rfl : n2 = n4 := by rw [← hl2.out, ← o4.len]
  have k4 := new_lt w4 (.cells #[.int .i64 a] 25)
  have b4' := b4.trans (k4.mono b4.size)
  have x4 := x3.below b4' x3.lt
  have y4 := y3.below b4' y3.lt
  have f4 := f3.below b4' f3.lt
  have c4 := c3.trans (b4'.mono c3.size)
  have o24 := o23.below b4'
  have o34 := o3'.below b4'
  have cy4 := y4.cell
  have cf4 := f4.cell
  clear x3 y3 f3 cx3 o3' o4
  go_wp2_with fail
  generalize hv4 : w4.alloc (.cells #[.int .i64 a] 25) = v4 at *
  clear hv4
  refine (like_yes A2 A3 n2 d2 d3 _ _ xs _ o24.irow o34.irow (by omega)).mono ?_
  rintro e w5 ⟨rfl, d5⟩
  have X5 := Lib.hid (x4.below (d5.below _) x4.lt)
  have Y5 := Lib.hid (y4.below (d5.below _) y4.lt)
  have O5 := Lib.hid (o24.drew d5)
  have C5 := Lib.hid (c4.trans (d5.below _))
  have zp : w1.heap.size < w2.heap.size := by omega
  clear x4 y4 f4 cy4 cf4 o34 o24 o22 o23 c1 c2 c3 c4 k2 k3 k4 b2 b3 b4 b3' b4' o2 d5 b1
  by_cases h0 : n2 = 0
  · subst h0
    go_wp2
    go_loopw [12] (fun i wr => i = .int .i64 0 ∧ wr = w5) (fun _ _ => 0)
    case atStart => exact ⟨rfl, rfl⟩
    case round =>
      obtain ⟨rfl, rfl⟩ := hrel
      go_wp2
      go_ret
      exact ⟨rfl, C5.out⟩
  · have hne : (spread s m q).2 ≠ [] := by
      rw [← HX.out]
      intro e
      have := hl2.out
      rw [e] at this
      simp at this
      omega
    obtain ⟨M, rfl, hM, hd, hnk, hsp⟩ := spread_full hne
    have hMn : n2 = M := by rw [← hl2.out, HX.out, hsp, spreadTo_len]
    subst hMn
    have HXE := Lib.hid (show xs = (spreadTo s q n2).2 by rw [HX.out, hsp])
    have HAE := Lib.hid (show a = (spreadTo s q n2).1 by rw [HA.out, hsp])
    obtain ⟨q0, q1⟩ := nOk_iff.1 hnk
    have HD := Lib.hid hd
    have HNK := Lib.hid hnk
    have hne0 : ((n2 : Int) == 0) = false := by simp; omega
    clear hne hd hnk hsp HX HA
    go_wp2
    go_loopw [12] (fun i wr => ∃ k : Nat, k ≤ n2 ∧ i = .int .i64 (k : Int) ∧ Box wr w1.heap.size (spreadTo s q k).1 ∧ Box wr w2.heap.size a ∧ Own wr v1.heap.size A2 n2 d2 xs ∧ Below w.heap.size w wr) (fun i _ => n2 - (intOf i).toNat)
    case atStart => exact ⟨0, Nat.zero_le _, rfl, X5.out, Y5.out, O5.out, C5.out⟩
    case round =>
      obtain ⟨k, hk, rfl, hx, hy, hown, hbel⟩ := hrel
      clear X5 Y5 O5 C5
      have cx := hx.cell
      have fx := hx.free
      by_cases hlt : k < n2
      · obtain ⟨g, rfl, hg, hg'⟩ := hown.at_ (by omega)
        have hcell := hown.irow.2 (by omega)
        obtain ⟨b, off, hb, _, hcc⟩ := hcell
        have hcl := hcc k hlt
        injection hb with hb
        injection hb with hb1 hb2 _
        subst hb1 hb2
        have hxv : xs.getD k 0 = rollN (spreadTo s q k).1 % q := by rw [HXE.out]; exact spreadTo_get hlt
        rw [hxv, Nat.zero_add] at hcl
        have HUN := Lib.hid (under_yes (spreadTo_ok (n := q) HD.out k) HNK.out)
        have HSU := Lib.hid (show (spreadTo s q (k + 1)).1 = rollN (spreadTo s q k).1 from rfl)
        have e0 : 0 ≤ rollN (spreadTo s q k).1 % q := Int.emod_nonneg _ (by omega)
        have e1 : rollN (spreadTo s q k).1 % q < q := Int.emod_lt_of_pos _ (by omega)
        clear hxv hcc
        generalize (spreadTo s q k).1 = D at *
        generalize hv : rollN D % q = v at *
        have HV := Lib.hid hv
        clear hv
        have i0 : (0 : Int) ≤ (k : Int) := by omega
        have i1 : (k : Int) < (n2 : Int) := by omega
        go_wp2_with fail
        refine (HU.out D q _).mono ?_
        rintro e w6 ⟨rfl, b6⟩
        rw [HUN.out]
        generalize rollN D = R at *
        have zx := hx.lt
        have zg := hg'
        have x6 := (hx.below b6 zx).alloc (.cells #[.int .i64 R] 25)
        have y6 := (hy.below b6 hy.lt).alloc (.cells #[.int .i64 R] 25)
        have k6 := new_lt w6 (.cells #[.int .i64 R] 25)
        have b6' := b6.trans (k6.mono b6.size)
        have o6 := hown.below b6'
        have c6 := hbel.trans (b6'.mono hbel.size)
        have cx6 := x6.cell
        have fx6 := x6.free
        have hc6 : (w6.alloc (.cells #[.int .i64 R] 25)).cell? ⟨g, k, none⟩ = some (.int .i64 v) := (b6'.cell (p := ⟨g, k, none⟩) zg).trans hcl
        have X7 := Lib.hid (x6.set_ R)
        have Y7 := Lib.hid (y6.far (q := w1.heap.size) (i := 0) (.int .i64 R) (by omega))
        have O7 := Lib.hid (o6.kept (grown_setCell _ w1.heap.size 0 (.int .i64 R)) (fun p hp => by injection hp with hp; omega))
        have C7 := Lib.hid (c6.setCell (p := ⟨w1.heap.size, 0, none⟩) (by show w.heap.size ≤ w1.heap.size; omega) (.int .i64 R))
        clear x6 y6 o6 c6 hx hy hown hbel cx fx hcl b6 b6' k6
        go_wp2
        go_roundw
        case rel => exact ⟨k + 1, by omega, by go_num, by rw [HSU.out]; exact X7.out, Y7.out, O7.out, C7.out⟩
        case measure => simp [intOf]; omega
      · obtain rfl : k = n2 := by omega
        have cy := hy.cell
        rw [← HAE.out] at cx
        clear hx hy hown fx
        go_wp2
        go_ret
        exact ⟨rfl, hbel⟩

end Go.Proofs.Ytbpefenbpfaeaaa

/-
  Spread, of the program of chapter 2: so many numbers under a bound, drawn by a closure into a made row.
-/
import Derived.Test.YtbpefenbpfaeaaaDicJ
import Derived.Test.YtbpefenbpfaeaaaDicH
namespace Go.Proofs.Ytbpefenbpfaeaaa
open Go.RowKit

theorem own_nil (w : World) (base : Nat) : Own w base none 0 0 [] := ⟨rfl, .inl ⟨rfl, rfl⟩⟩
theorem own_made (w : World) (n : Nat) (hn : n ≤ 1048577) : Own (w.alloc (.cells (madeCells #[.int .i64 0] n) 2)) w.heap.size (some ⟨w.heap.size, 0, none⟩) n n (List.replicate n 0) := by
  have := World.ownsRow_lit (base := w.heap.size) (e := 2) (size := 1) w (madeCells #[.int .i64 0] n) n (Nat.le_refl _) (by simp only [maxLen]; omega) (by rw [size_madeCells]; omega)
  rw [toList_madeCells_one] at this
  simpa [Own, ivals] using this
theorem set_fill {L : List Int} {k m : Nat} (y : Int) (hl : L.length = k) (hm : k < m) : (L ++ List.replicate (m - k) 0).set k y = (L ++ [y]) ++ List.replicate (m - (k + 1)) 0 := by
  obtain ⟨j, hj⟩ : ∃ j, m - k = j + 1 := ⟨m - k - 1, by omega⟩
  rw [hj, show m - (k + 1) = j by omega, List.set_append_right _ _ (by omega), hl, Nat.sub_self, List.replicate_succ]
  simp

set_option maxHeartbeats 3200000 in
theorem iSpread_any (s m n : Int) (w : World) :
    Calls Try.prog 13 #[.agg #[.int .i64 s], .int .i64 m, .int .i64 n] w (MadeDR w (spread s m n)) := by
  obtain ⟨w0, hw0⟩ : ∃ w0, w0 = (w.alloc (.cells #[.int .i64 s] 25)).alloc (.cells #[.int .i64 0] 25) := ⟨_, rfl⟩
  have x0 : Box w0 w.heap.size s := by rw [hw0]; exact (Box.new w s).alloc _
  have y0 : Box w0 (w.heap.size + 1) 0 := by
    rw [hw0]
    have := Box.new (w.alloc (.cells #[.int .i64 s] 25)) 0
    simpa using this
  have b0 : Below w.heap.size w w0 := by
    rw [hw0]
    exact ((Below.refl _ w).alloc (Nat.le_refl _) _).alloc (by simp) _
  have z0' : w.heap.size + 1 < w0.heap.size := y0.lt
  have HW := Lib.hid hw0
  clear hw0
  cases hd : diceOk s
  · have HR := Lib.hid (show spread s m n = (0, []) by simp [spread, hd])
    go_enter Try.func13, Try.ntmps13
    go_wp2_with fail
    rw [← HW.out]
    refine (iDiceOk_any s _).mono ?_
    rintro e w1 ⟨rfl, b1⟩
    rw [hd]
    have y1 := y0.below b1 z0'
    have c1 := y1.cell
    have f1 := y1.free
    have B1 := Lib.hid ((b0.trans (b1.mono b0.size)).setCell (p := ⟨w.heap.size + 1, 0, none⟩) (by simp) (.int .i64 0))
    clear x0 y0 y1 b0 b1
    go_wp2
    refine bodyPost_ret (v := .tuple #[.agg #[.int .i64 0], .slice none 0 0]) (by simp [results, Try.results13, go_sem, c1]) rfl ⟨_, 0, 0, by rw [HR.out], ?_, B1.out⟩
    rw [HR.out]
    exact own_nil _ _
  have HD := Lib.hid hd
  clear hd
  by_cases hmn : manyOk m = true ∧ nOk n = true
  · obtain ⟨hm, hn⟩ := hmn
    have HR := Lib.hid (show spread s m n = spreadTo s n m.toNat by simp [spread, HD.out, hm, hn])
    obtain ⟨m0, m1⟩ := manyOk_iff.1 hm
    obtain ⟨n0, n1⟩ := nOk_iff.1 hn
    obtain ⟨M, rfl⟩ := Int.eq_ofNat_of_zero_le m0
    have HN := Lib.hid hn
    have hmk := run_make_row' (P := Try.prog) 28 2 (.int .i64 0) 8 Try.underlying28 info64 rfl .i64 .i64 M (by omega) (by omega)
    clear hm hn
    go_enter Try.func13, Try.ntmps13
    go_wp2_with fail
    rw [← HW.out]
    refine (iDiceOk_any s _).mono ?_
    rintro e w1 ⟨rfl, b1⟩
    rw [HD.out]
    have x1 := x0.below b1 x0.lt
    have y1 := y0.below b1 z0'
    have c1 := b0.trans (b1.mono b0.size)
    have cx := x1.cell
    have fx := x1.free
    clear x0 y0 b0 b1
    go_wp2_with fail
    refine (iBound_any _ _).mono ?_
    rintro e w1' ⟨rfl, rfl⟩
    rw [HN.out]
    go_wp2_with fail
    refine (iDrawer_any s _).mono ?_
    rintro e w2 ⟨rfl, n2, b2⟩
    have y2 := y1.below b2 y1.lt
    have zy := y1.lt
    have c2 := c1.trans (b2.mono c1.size)
    have zc := c1.size
    have zn := n2.lt
    clear x1 y1 cx fx b2 c1
    have O3 := Lib.hid (own_made w2 M (by omega))
    have N3 := Lib.hid (n2.alloc (.cells (madeCells #[.int .i64 0] M) 2))
    have Y3 := Lib.hid (y2.alloc (.cells (madeCells #[.int .i64 0] M) 2))
    have C3 := Lib.hid (c2.alloc c2.size (.cells (madeCells #[.int .i64 0] M) 2))
    clear n2 y2 c2
    unfold drawFn afterFn
    go_wp2
    go_loopw [37] (fun r wr => ∃ k : Nat, k ≤ M ∧ r = .int .i64 (k : Int) ∧ Own wr w2.heap.size (some ⟨w2.heap.size, 0, none⟩) M M ((spreadTo s n k).2 ++ List.replicate (M - k) 0) ∧ NBox wr (w1.heap.size + 1) (spreadTo s n k).1 ∧ Box wr (w.heap.size + 1) 0 ∧ Below w.heap.size w wr) (fun r _ => M - (intOf r).toNat)
    case atStart => exact ⟨0, Nat.zero_le _, rfl, O3.out, N3.out, Y3.out, C3.out⟩
    case round =>
      obtain ⟨k, hk, rfl, hown, hx, hy, hbel⟩ := hrel
      clear O3 N3 Y3 C3 hmk
      have HDk := Lib.hid (spreadTo_ok (n := n) HD.out k)
      have hlk := Lib.hid (spreadTo_len s n k)
      have HS := Lib.hid (show spreadTo s n (k + 1) = (rollN (spreadTo s n k).1, (spreadTo s n k).2 ++ [rollN (spreadTo s n k).1 % n]) from rfl)
      have HE := Lib.hid (show M = k → spread s (M : Int) n = spreadTo s n k from fun e => by rw [HR.out, e]; rfl)
      obtain ⟨L, hL⟩ : ∃ L, L = (spreadTo s n k).2 := ⟨_, rfl⟩
      obtain ⟨D, hD⟩ : ∃ D, D = (spreadTo s n k).1 := ⟨_, rfl⟩
      rw [← hL] at hown HS hlk
      rw [← hD] at hx HS HDk
      have HSP := Lib.hid (show spreadTo s n k = (D, L) by rw [hL, hD])
      clear hL hD
      have zy := hy.lt
      by_cases hlt : k < M
      · have hr := rollN_bd D
        go_wp2_with fail
        refine (iDraw_any D _ _ hx HDk.out).mono ?_
        rintro e w3 ⟨rfl, rfl⟩
        generalize rollN D = R at *
        obtain ⟨r0, r1⟩ := hr
        have hn0 : n ≠ 0 := by omega
        have hne : (n == 0) = false := by simp; omega
        have N4 := Lib.hid (hx.set_ R)
        have y4 := hy.far (q := w1.heap.size + 1) (i := 0) (.int .i64 R) (by omega)
        have b4 := hbel.setCell (p := ⟨w1.heap.size + 1, 0, none⟩) (by show w.heap.size ≤ w1.heap.size + 1; omega) (.int .i64 R)
        have o4 := hown.kept (grown_setCell wr (w1.heap.size + 1) 0 (.int .i64 R)) (fun p hp => by injection hp with hp; omega)
        have n4 := N4.out
        clear hx hy hbel hown
        generalize wr.setCell ⟨w1.heap.size + 1, 0, none⟩ (.int .i64 R) = w4 at *
        obtain ⟨v, hv⟩ : ∃ v, v = (L ++ List.replicate (M - k) 0).getD k 0 := ⟨_, rfl⟩
        have ck := o4.cell' (j := k) hlt
        rw [← hv] at ck
        have fk : w4.frozen? ⟨w2.heap.size, k, none⟩ = false := World.ownsRow.frozenAt o4 k
        have k0 : (0 : Int) ≤ (k : Int) := by omega
        have k1 : (k : Int) < (M : Int) := by omega
        have O5 := Lib.hid (own_put' o4 k (R % n))
        have N5 := Lib.hid (n4.far (q := w2.heap.size) (i := k) (.int .i64 (R % n)) (by omega))
        have Y5 := Lib.hid (y4.far (q := w2.heap.size) (i := k) (.int .i64 (R % n)) (by omega))
        have B5 := Lib.hid (b4.setCell (p := ⟨w2.heap.size, k, none⟩) (by show w.heap.size ≤ w2.heap.size; omega) (.int .i64 (R % n)))
        clear hv N4 n4 y4 b4 o4
        go_wp2
        go_roundw
        case rel => exact ⟨k + 1, by omega, by go_num, by rw [HS.out]; rw [set_fill _ hlk.out hlt] at O5; exact O5.out, by rw [HS.out]; exact N5.out, Y5.out, B5.out⟩
        case measure => simp [intOf]; omega
      · have hkM : M = k := by omega
        have hi : ¬ (k : Int) < (M : Int) := by omega
        have HE' := Lib.hid (HE.out hkM)
        have O4 := Lib.hid (show Own wr w2.heap.size (some ⟨w2.heap.size, 0, none⟩) M M L by
          have := hown
          rw [hkM, Nat.sub_self, List.replicate_zero, List.append_nil, ← hkM] at this
          exact this)
        have HKM := Lib.hid hkM
        clear hkM hown
        go_wp2_with fail
        refine (iAfter_any _ _ _ hx).mono ?_
        rintro e w4 ⟨rfl, b4⟩
        have y4 := hy.below b4 zy
        have c1 := y4.cell
        have f1 := y4.free
        have O5 := Lib.hid ((O4.out.below b4).kept (grown_setCell w4 (w.heap.size + 1) 0 (.int .i64 D)) (fun p hp => by injection hp with hp; omega))
        have B5 := Lib.hid ((hbel.trans (b4.mono hbel.size)).setCell (p := ⟨w.heap.size + 1, 0, none⟩) (by simp) (.int .i64 D))
        clear hx hy hbel y4 b4
        go_wp2
        refine bodyPost_ret (v := .tuple #[.agg #[.int .i64 D], .slice (some ⟨w2.heap.size, 0, none⟩) M M]) (by simp [results, Try.results13, go_sem, c1]) rfl ⟨some ⟨w2.heap.size, 0, none⟩, M, M, ?_, ?_, B5.out⟩
        · rw [HE'.out, HSP.out]
        · rw [HE'.out, HSP.out]
          exact O5.out.up (by omega)
  · have HR := Lib.hid (show spread s m n = (s, []) by simp [spread, HD.out, hmn])
    by_cases hm : manyOk m = true
    · have hn : nOk n = false := by
        cases h2 : nOk n
        · rfl
        · exact absurd ⟨hm, h2⟩ hmn
      obtain ⟨m0, m1⟩ := manyOk_iff.1 hm
      have HN := Lib.hid hn
      clear hmn hm hn
      go_enter Try.func13, Try.ntmps13
      go_wp2_with fail
      rw [← HW.out]
      refine (iDiceOk_any s _).mono ?_
      rintro e w1 ⟨rfl, b1⟩
      rw [HD.out]
      have y1 := y0.below b1 z0'
      have c1 := y1.cell
      have f1 := y1.free
      have cx := (x0.below b1 x0.lt).cell
      have B1 := Lib.hid ((b0.trans (b1.mono b0.size)).setCell (p := ⟨w.heap.size + 1, 0, none⟩) (by simp) (.int .i64 s))
      clear x0 y0 y1 b0 b1
      go_wp2_with fail
      refine (iBound_any _ _).mono ?_
      rintro e w1' ⟨rfl, rfl⟩
      rw [HN.out]
      go_wp2
      refine bodyPost_ret (v := .tuple #[.agg #[.int .i64 s], .slice none 0 0]) (by simp [results, Try.results13, go_sem, c1]) rfl ⟨_, 0, 0, by rw [HR.out], ?_, B1.out⟩
      rw [HR.out]
      exact own_nil _ _
    · have hor : m < 0 ∨ (0 ≤ m ∧ 64 < m) := by
        by_cases h : m < 0
        · exact .inl h
        · refine .inr ⟨by omega, ?_⟩
          by_cases h2 : 64 < m
          · exact h2
          · exact absurd (manyOk_iff.2 ⟨by omega, by omega⟩) hm
      clear hmn hm
      rcases hor with hneg | ⟨hpos, hbig⟩
      all_goals
        go_enter Try.func13, Try.ntmps13
        go_wp2_with fail
        rw [← HW.out]
        refine (iDiceOk_any s _).mono ?_
        rintro e w1 ⟨rfl, b1⟩
        rw [HD.out]
        have y1 := y0.below b1 z0'
        have c1 := y1.cell
        have f1 := y1.free
        have cx := (x0.below b1 x0.lt).cell
        have B1 := Lib.hid ((b0.trans (b1.mono b0.size)).setCell (p := ⟨w.heap.size + 1, 0, none⟩) (by simp) (.int .i64 s))
        clear x0 y0 y1 b0 b1
        go_wp2
        refine bodyPost_ret (v := .tuple #[.agg #[.int .i64 s], .slice none 0 0]) (by simp [results, Try.results13, go_sem, c1]) rfl ⟨_, 0, 0, by rw [HR.out], ?_, B1.out⟩
        rw [HR.out]
        exact own_nil _ _

end Go.Proofs.Ytbpefenbpfaeaaa

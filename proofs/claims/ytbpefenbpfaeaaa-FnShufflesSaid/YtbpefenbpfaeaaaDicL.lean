/-
  Shuffled, of the program of chapter 2: a permutation of a copy, exchanged by numbers that a closure draws.
-/
import Derived.Test.YtbpefenbpfaeaaaDicK
import Derived.Test.YtbpefenbpfaeaaaCopyI
import Derived.RegionTactic
namespace Go.Proofs.Ytbpefenbpfaeaaa
open Go.RowKit

set_option maxHeartbeats 3200000 in
theorem iShuf_any (s : Int) (A : Option Addr) (n c : Nat) (xs : List Int) (w : World) (h : IRow w w.heap.size A n xs) (hn : n ≤ 1048577) (_hnc : n ≤ c) :
    Calls Try.prog 18 #[.agg #[.int .i64 s], .slice A n c] w (MadeDR w (shuffled s xs)) := by
  obtain ⟨w0, hw0⟩ : ∃ w0, w0 = (w.alloc (.cells #[.int .i64 s] 25)).alloc (.cells #[.int .i64 0] 25) := ⟨_, rfl⟩
  have x0 : Box w0 w.heap.size s := by rw [hw0]; exact (Box.new w s).alloc _
  have y0 : Box w0 (w.heap.size + 1) 0 := by
    rw [hw0]
    have := Box.new (w.alloc (.cells #[.int .i64 s] 25)) 0
    simpa using this
  have b0 : Below w.heap.size w w0 := by
    rw [hw0]
    exact ((Below.refl _ w).alloc (Nat.le_refl _) _).alloc (by simp) _
  have z0' : w.heap.size + 1 < w0.heap.size := y0.lt
  have hl := Lib.hid h.1
  have HW := Lib.hid hw0
  clear hw0
  cases hd : diceOk s
  · have HR := Lib.hid (show shuffled s xs = (0, []) by simp [shuffled, hd])
    clear h
    go_enter Try.func18, Try.ntmps18
    go_wp2_with fail
    rw [← HW.out]
    refine (iDiceOk_any s _).mono ?_
    rintro e w1 ⟨rfl, b1⟩
    rw [hd]
    have y1 := y0.below b1 z0'
    have c1 := y1.cell
    have f1 := y1.free
    have B1 := Lib.hid ((b0.trans (b1.mono b0.size)).setCell (p := ⟨w.heap.size + 1, 0, none⟩) (by simp) (.int .i64 0))
    clear x0 y0 y1 b0 b1
    go_wp2
    refine bodyPost_ret (v := .tuple #[.agg #[.int .i64 0], .slice none 0 0]) (by simp [results, Try.results18, go_sem, c1]) rfl ⟨_, 0, 0, by rw [HR.out], ?_, B1.out⟩
    rw [HR.out]
    exact own_nil _ _
  have HD := Lib.hid hd
  clear hd
  by_cases h64 : 64 < n
  · have HR := Lib.hid (show shuffled s xs = (s, []) by
      unfold shuffled
      rw [if_pos HD.out, if_neg (by rw [hl.out]; omega)])
    clear h
    go_enter Try.func18, Try.ntmps18
    go_wp2_with fail
    rw [← HW.out]
    refine (iDiceOk_any s _).mono ?_
    rintro e w1 ⟨rfl, b1⟩
    rw [HD.out]
    have y1 := y0.below b1 z0'
    have c1 := y1.cell
    have f1 := y1.free
    have cx := (x0.below b1 x0.lt).cell
    have B1 := Lib.hid ((b0.trans (b1.mono b0.size)).setCell (p := ⟨w.heap.size + 1, 0, none⟩) (by simp) (.int .i64 s))
    clear x0 y0 y1 b0 b1
    go_wp2
    refine bodyPost_ret (v := .tuple #[.agg #[.int .i64 s], .slice none 0 0]) (by simp [results, Try.results18, go_sem, c1]) rfl ⟨_, 0, 0, by rw [HR.out], ?_, B1.out⟩
    rw [HR.out]
    exact own_nil _ _
  have HR := Lib.hid (show shuffled s xs = shufFrom s xs (n - 1) by
    unfold shuffled
    rw [if_pos HD.out, hl.out, if_pos (by omega)])
  go_enter Try.func18, Try.ntmps18
  go_wp2_with fail
  rw [← HW.out]
  refine (iDiceOk_any s _).mono ?_
  rintro e w1 ⟨rfl, b1⟩
  rw [HD.out]
  have x1 := x0.below b1 x0.lt
  have y1 := y0.below b1 z0'
  have c1 := b0.trans (b1.mono b0.size)
  have cx := x1.cell
  have fx := x1.free
  clear x0 y0 b0 b1
  go_wp2_with fail
  refine (iDrawer_any s _).mono ?_
  rintro e w2 ⟨rfl, n2, b2⟩
  have y2 := y1.below b2 y1.lt
  have zy := y1.lt
  have c2 := c1.trans (b2.mono c1.size)
  have zc := c1.size
  have zn := n2.lt
  have h2 := (h.below c2).up c2.size
  clear x1 y1 cx fx b2 c1 h
  unfold drawFn afterFn
  go_wp2_with fail
  refine (iCopy_any A n c xs _ h2 hn).mono ?_
  rintro e w3 ⟨G, n3, d3, rfl, o3, b3⟩
  obtain rfl : n = n3 := by rw [← hl.out, o3.len]
  have O3 := Lib.hid o3
  have N3 := Lib.hid (n2.below b3 zn)
  have Y3 := Lib.hid (y2.below b3 y2.lt)
  have C3 := Lib.hid (c2.trans (b3.mono c2.size))
  clear n2 y2 c2 o3 b3 h2
  go_wp2
  go_loopw [9] (fun a wr => ∃ (j d : Int) (l : List Int), -1 ≤ j ∧ j < (n : Int) ∧ a = .int .i64 j ∧ shuffled s xs = shufFrom d l j.toNat ∧ diceOk d = true ∧ Own wr w2.heap.size G n d3 l ∧ NBox wr (w1.heap.size + 1) d ∧ Box wr (w.heap.size + 1) 0 ∧ Below w.heap.size w wr) (fun a _ => (intOf a).toNat)
  case atStart =>
    refine ⟨(n : Int) - 1, s, xs, by omega, by omega, rfl, ?_, HD.out, O3.out, N3.out, Y3.out, C3.out⟩
    rw [HR.out]
    congr 1
    omega
  case round =>
    obtain ⟨j, d, l, j0, j1, rfl, hfin, hdo, hown, hx, hy, hbel⟩ := hrel
    clear O3 N3 Y3 C3
    have zy := hy.lt
    have HF := Lib.hid hfin
    have HDO := Lib.hid hdo
    clear hfin hdo
    by_cases hj : 0 < j
    · obtain ⟨i, rfl⟩ : ∃ i : Nat, j = (i : Int) + 1 := ⟨(j - 1).toNat, by omega⟩
      have hi : i + 1 < n := by omega
      obtain ⟨g, rfl, hg, hg'⟩ := hown.at_ (by omega)
      have hK0 : 0 ≤ rollN d % ((i : Int) + 2) := Int.emod_nonneg _ (by omega)
      have hK1 : rollN d % ((i : Int) + 2) < (i : Int) + 2 := Int.emod_lt_of_pos _ (by omega)
      have HS := Lib.hid (show shufFrom d l (i + 1) = shufFrom (rollN d) (swapped l (i + 1) (rollN d % ((i : Int) + 2)).toNat) i from rfl)
      have HRO := Lib.hid (rollN_ok d)
      have hr := rollN_bd d
      go_wp2_with fail
      refine (iDraw_any d _ _ hx HDO.out).mono ?_
      rintro e w4 ⟨rfl, rfl⟩
      generalize rollN d = R at *
      obtain ⟨r0, r1⟩ := hr
      have n4 := hx.set_ R
      have y4 := hy.far (q := w1.heap.size + 1) (i := 0) (.int .i64 R) (by omega)
      have b4 := hbel.setCell (p := ⟨w1.heap.size + 1, 0, none⟩) (by show w.heap.size ≤ w1.heap.size + 1; omega) (.int .i64 R)
      have o4 := hown.kept (grown_setCell wr (w1.heap.size + 1) 0 (.int .i64 R)) (fun p hp => by injection hp with hp; omega)
      clear hx hy hbel hown
      generalize wr.setCell ⟨w1.heap.size + 1, 0, none⟩ (.int .i64 R) = w4 at *
      obtain ⟨K, hK⟩ := Int.eq_ofNat_of_zero_le hK0
      rw [hK] at hK1
      have HS2 := Lib.hid (show shufFrom d l (i + 1) = shufFrom R (swapped l (i + 1) K) i by rw [HS.out, hK]; rfl)
      have hm2 : ((i : Int) + 1 + 1) = (i : Int) + 2 := by omega
      have cI := o4.cell' (j := i + 1) hi
      have cK := o4.cell' (j := K) (by omega)
      have fI : w4.frozen? ⟨g, i + 1, none⟩ = false := World.ownsRow.frozenAt o4 (i + 1)
      obtain ⟨a, ha⟩ : ∃ a, a = l.getD (i + 1) 0 := ⟨_, rfl⟩
      obtain ⟨b, hb⟩ : ∃ b, b = l.getD K 0 := ⟨_, rfl⟩
      rw [← ha] at cI
      rw [← hb] at cK
      have o5 := own_put' o4 (i + 1) b
      have cK4 := o5.cell' (j := K) (by omega)
      have fK4 : (w4.setCell ⟨g, i + 1, none⟩ (.int .i64 b)).frozen? ⟨g, K, none⟩ = false := World.ownsRow.frozenAt o5 K
      generalize (l.set (i + 1) b).getD K 0 = v4 at cK4
      have O6 := Lib.hid (show Own ((w4.setCell ⟨g, i + 1, none⟩ (.int .i64 b)).setCell ⟨g, K, none⟩ (.int .i64 a)) w2.heap.size (some ⟨g, 0, none⟩) n d3 (swapped l (i + 1) K) by
        have := own_put' o5 K a
        rw [ha, hb] at this ⊢
        exact this)
      have N6 := Lib.hid ((n4.far (q := g) (i := i + 1) (.int .i64 b) (by omega)).far (q := g) (i := K) (.int .i64 a) (by omega))
      have Y6 := Lib.hid ((y4.far (q := g) (i := i + 1) (.int .i64 b) (by omega)).far (q := g) (i := K) (.int .i64 a) (by omega))
      have B6 := Lib.hid ((b4.setCell (p := ⟨g, i + 1, none⟩) (by show w.heap.size ≤ g; omega) (.int .i64 b)).setCell (p := ⟨g, K, none⟩) (by show w.heap.size ≤ g; omega) (.int .i64 a))
      have i0 : (0 : Int) ≤ (i : Int) + 1 := by omega
      have i1 : (i : Int) + 1 < (n : Int) := by omega
      have k0 : (0 : Int) ≤ (K : Int) := by omega
      have k1 : (K : Int) < (n : Int) := by omega
      have HKK := Lib.hid hK
      clear ha hb n4 y4 o4 b4 o5 HS hK hK0
      go_wp2
      rw [HKK.out]
      go_region
      go_wp2
      go_roundw
      case rel => exact ⟨(i : Int), R, swapped l (i + 1) K, by omega, by omega, by go_num, by rw [HF.out]; exact HS2.out, HRO.out, O6.out, N6.out, Y6.out, B6.out.drew⟩
      case measure => simp [intOf] <;> omega
    · have HE := Lib.hid (show shuffled s xs = (d, l) by rw [HF.out, show j.toNat = 0 by omega]; rfl)
      go_wp2_with fail
      refine (iAfter_any _ _ _ hx).mono ?_
      rintro e w4 ⟨rfl, b4⟩
      have y4 := hy.below b4 zy
      have c1 := y4.cell
      have f1 := y4.free
      have O5 := Lib.hid ((hown.below b4).kept (grown_setCell w4 (w.heap.size + 1) 0 (.int .i64 d)) (fun p hp => by injection hp with hp; omega))
      have B5 := Lib.hid ((hbel.trans (b4.mono hbel.size)).setCell (p := ⟨w.heap.size + 1, 0, none⟩) (by simp) (.int .i64 d))
      clear hx hy hbel hown y4 b4
      go_wp2
      refine bodyPost_ret (v := .tuple #[.agg #[.int .i64 d], .slice G n d3]) (by simp [results, Try.results18, go_sem, c1]) rfl ⟨G, n, d3, ?_, ?_, B5.out⟩
      · rw [HE.out]
      · rw [HE.out]
        exact O5.out.up (by omega)

end Go.Proofs.Ytbpefenbpfaeaaa

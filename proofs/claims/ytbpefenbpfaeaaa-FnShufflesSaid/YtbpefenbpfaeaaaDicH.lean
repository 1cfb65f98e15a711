/-
  Shuffled, of the model of chapter 2: a permutation of a list, in new memory.
-/
import Derived.Test.YtbpefenbpfaeaaaDicS
import Derived.Test.YtbpefenbpfaeaaaCopyS
namespace Go.Proofs.Ytbpefenbpfaeaaa
open Go.RowKit

def swapped (l : List Int) (i k : Nat) : List Int := (l.set i (l.getD k 0)).set k (l.getD i 0)
def shufFrom : Int → List Int → Nat → Int × List Int
  | d, l, 0 => (d, l)
  | d, l, i + 1 => shufFrom (rollN d) (swapped l (i + 1) (rollN d % ((i : Int) + 2)).toNat) i
def shuffled (s : Int) (l : List Int) : Int × List Int := if diceOk s = true then (if l.length ≤ 64 then shufFrom s l (l.length - 1) else (s, [])) else (0, [])

theorem swapped_len (l : List Int) (i k : Nat) : (swapped l i k).length = l.length := by simp [swapped]

theorem Own.cell' {w : World} {base g n c : Nat} {xs : List Int} (o : Own w base (some ⟨g, 0, none⟩) n c xs) {j : Nat} (hj : j < n) : w.cell? ⟨g, j, none⟩ = some (.int .i64 (xs.getD j 0)) := by
  have hl := o.len
  rw [World.ownsRow.cellAt o j (by omega), ivals_get, List.getElem?_eq_getElem (by omega)]
  simp [List.getD, List.getElem?_eq_getElem (show j < xs.length by omega)]
theorem own_put' {w : World} {base g n c : Nat} {xs : List Int} (o : Own w base (some ⟨g, 0, none⟩) n c xs) (j : Nat) (y : Int) : Own (w.setCell ⟨g, j, none⟩ (.int .i64 y)) base (some ⟨g, 0, none⟩) n c (xs.set j y) := by
  have h := (World.ownsRow.stored o j (.int .i64 y)).1
  have e : (ivals xs).set j (.int .i64 y) = ivals (xs.set j y) := by simp [ivals, List.map_set]
  rw [e] at h
  exact h

theorem own_empty' (w : World) (p : Nat) (y : Int) : Own ((w.setCell ⟨p, 0, none⟩ (.int .i64 y)).alloc (.cells #[] 2)) w.heap.size (some ⟨w.heap.size, 0, none⟩) 0 0 [] := by
  have h := own_empty (w.setCell ⟨p, 0, none⟩ (.int .i64 y))
  rw [show (w.setCell ⟨p, 0, none⟩ (.int .i64 y)).heap.size = w.heap.size from by simp] at h
  exact h

set_option maxHeartbeats 3200000 in
theorem sShuf_any (s : Int) (A : Option Addr) (n c : Nat) (xs : List Int) (w : World) (h : IRow w w.heap.size A n xs) (hn : n ≤ 1048577) :
    Calls Try.prog 31 #[.agg #[.int .i64 s], .slice A n c] w (MadeDR w (shuffled s xs)) := by
  obtain ⟨w0, hw0⟩ : ∃ w0, w0 = (w.alloc (.cells #[.int .i64 s] 25)).alloc (.cells #[.int .i64 0] 25) := ⟨_, rfl⟩
  have x0 : Box w0 w.heap.size s := by rw [hw0]; exact (Box.new w s).alloc _
  have y0 : Box w0 (w.heap.size + 1) 0 := by
    rw [hw0]
    have := Box.new (w.alloc (.cells #[.int .i64 s] 25)) 0
    simpa using this
  have b0 : Below w.heap.size w w0 := by
    rw [hw0]
    exact ((Below.refl _ w).alloc (Nat.le_refl _) _).alloc (by simp) _
  have z0 : w0.heap.size = w.heap.size + 2 := by rw [hw0]; simp
  have HW := Lib.hid hw0
  have X0 := Lib.hid x0
  have Y0 := Lib.hid y0
  have B0 := Lib.hid b0
  have z0' : w.heap.size + 1 < w0.heap.size := by omega
  have hl := Lib.hid h.1
  clear hw0 x0 y0 b0 z0
  cases hd : diceOk s
  · have HR := Lib.hid (show shuffled s xs = (0, []) by simp [shuffled, hd])
    go_enter Try.func31, Try.ntmps31
    go_wp2_with fail
    rw [← HW.out]
    refine (sDiceOk_any s _).mono ?_
    rintro e w1 ⟨rfl, b1⟩
    rw [hd]
    have y1 := Y0.out.below b1 z0'
    have c1 := y1.cell
    have f1 := y1.free
    have z1 := y1.lt
    have c2 := ((y1.set_ 0).alloc (.cells #[] 2)).cell
    have O1 := Lib.hid (own_empty' w1 (w.heap.size + 1) 0)
    have B1 := Lib.hid (((B0.out.trans (b1.mono B0.out.size)).setCell (p := ⟨w.heap.size + 1, 0, none⟩) (by simp) (.int .i64 0)).alloc (by simp; omega) (.cells #[] 2))
    clear y1 b1 h
    go_wp2
    refine bodyPost_ret (v := .tuple #[.agg #[.int .i64 0], .slice (some ⟨w1.heap.size, 0, none⟩) 0 0]) (by simp [results, Try.results31, go_sem, c2]) rfl ⟨_, 0, 0, by rw [HR.out], ?_, B1.out⟩
    rw [HR.out]
    exact O1.out.up (by omega)
  have HD := Lib.hid hd
  clear hd
  by_cases h64 : 64 < n
  · have HR := Lib.hid (show shuffled s xs = (s, []) by
      unfold shuffled
      rw [if_pos HD.out, if_neg (by rw [hl.out]; omega)])
    go_enter Try.func31, Try.ntmps31
    go_wp2_with fail
    rw [← HW.out]
    refine (sDiceOk_any s _).mono ?_
    rintro e w1 ⟨rfl, b1⟩
    rw [HD.out]
    have y1 := Y0.out.below b1 z0'
    have cx := (X0.out.below b1 (by omega)).cell
    have c1 := y1.cell
    have f1 := y1.free
    have z1 := y1.lt
    have c2 := ((y1.set_ s).alloc (.cells #[] 2)).cell
    have O1 := Lib.hid (own_empty' w1 (w.heap.size + 1) s)
    have B1 := Lib.hid (((B0.out.trans (b1.mono B0.out.size)).setCell (p := ⟨w.heap.size + 1, 0, none⟩) (by simp) (.int .i64 s)).alloc (by simp; omega) (.cells #[] 2))
    clear y1 b1 h
    go_wp2
    refine bodyPost_ret (v := .tuple #[.agg #[.int .i64 s], .slice (some ⟨w1.heap.size, 0, none⟩) 0 0]) (by simp [results, Try.results31, go_sem, c2]) rfl ⟨_, 0, 0, by rw [HR.out], ?_, B1.out⟩
    rw [HR.out]
    exact O1.out.up (by omega)
  have HR := Lib.hid (show shuffled s xs = shufFrom s xs (n - 1) by
    unfold shuffled
    rw [if_pos HD.out, hl.out, if_pos (by omega)])
  go_enter Try.func31, Try.ntmps31
  go_wp2_with fail
  rw [← HW.out]
  refine (sDiceOk_any s _).mono ?_
  rintro e w1 ⟨rfl, b1⟩
  rw [HD.out]
  have b01 := B0.out.trans (b1.mono B0.out.size)
  have x1 := X0.out.below b1 (by omega)
  have y1 := Y0.out.below b1 z0'
  have h1 := (h.below b01).up b01.size
  clear b1
  go_wp2_with fail
  refine (sCopy_any A n c xs _ h1 hn).mono ?_
  rintro e w2 ⟨G, n2, c2, rfl, o2, b12⟩
  obtain rfl : n = n2 := by rw [← hl.out, o2.len]
  have z1 := y1.lt
  have X2 := Lib.hid (x1.below b12 (by omega))
  have Y2 := Lib.hid (y1.below b12 z1)
  have O2 := Lib.hid (o2.up (base' := w.heap.size + 2) z1)
  have B2 := Lib.hid (b01.trans (b12.mono b01.size))
  clear x1 y1 o2 b12 b01 h1 h X0 Y0 B0 z1
  go_wp2
  go_loopw [7] (fun a wr => ∃ (j d : Int) (l : List Int), -1 ≤ j ∧ j < (n : Int) ∧ a = .int .i64 j ∧ shuffled s xs = shufFrom d l j.toNat ∧ diceOk d = true ∧ Own wr (w.heap.size + 2) G n c2 l ∧ Box wr w.heap.size d ∧ Box wr (w.heap.size + 1) 0 ∧ Below w.heap.size w wr) (fun a _ => (intOf a).toNat)
  case atStart =>
    refine ⟨(n : Int) - 1, s, xs, by omega, by omega, rfl, ?_, HD.out, O2.out, X2.out, Y2.out, B2.out⟩
    rw [HR.out]
    congr 1
    omega
  case round =>
    obtain ⟨j, d, l, j0, j1, rfl, hfin, hdo, hown, hx, hy, hbel⟩ := hrel
    clear X2 Y2 O2 B2
    have z := hy.lt
    have HF := Lib.hid hfin
    have HDO := Lib.hid hdo
    have cx := hx.cell
    have fx := hx.free
    clear hfin hdo
    by_cases hj : 0 < j
    · obtain ⟨i, rfl⟩ : ∃ i : Nat, j = (i : Int) + 1 := ⟨(j - 1).toNat, by omega⟩
      have hi : i + 1 < n := by omega
      obtain ⟨g, rfl, hg, hg'⟩ := hown.at_ (by omega)
      have HU := Lib.hid (under_yes (s := d) (n := (i : Int) + 2) HDO.out (nOk_iff.2 (by omega)))
      have hK0 : 0 ≤ rollN d % ((i : Int) + 2) := Int.emod_nonneg _ (by omega)
      have hK1 : rollN d % ((i : Int) + 2) < (i : Int) + 2 := Int.emod_lt_of_pos _ (by omega)
      have HS := Lib.hid (show shufFrom d l (i + 1) = shufFrom (rollN d) (swapped l (i + 1) (rollN d % ((i : Int) + 2)).toNat) i from rfl)
      have HRO := Lib.hid (rollN_ok d)
      go_wp2_with fail
      rw [show ((i : Int) + 1 + 1) = (i : Int) + 2 from by omega]
      refine (sUnder_any d ((i : Int) + 2) _).mono ?_
      rintro e w2 ⟨rfl, b2⟩
      rw [HU.out]
      generalize rollN d % ((i : Int) + 2) = KK at *
      obtain ⟨K, rfl⟩ := Int.eq_ofNat_of_zero_le hK0
      rw [Int.toNat_natCast] at HS
      have x2 := hx.below b2 (by omega)
      have y2 := hy.below b2 z
      have o2 := hown.below b2
      have z2 := b2.size
      have b02 := hbel.trans (b2.mono hbel.size)
      generalize rollN d = R at *
      clear hx hy hown hbel b2 cx fx
      obtain ⟨w3, hw3⟩ : ∃ w3, w3 = ((w2.alloc (.cells #[.int .i64 R] 25)).setCell ⟨w.heap.size, 0, none⟩ (.int .i64 R)) := ⟨_, rfl⟩
      have x3 : Box w3 w.heap.size R := by rw [hw3]; exact (x2.alloc _).set_ R
      have y3 : Box w3 (w.heap.size + 1) 0 := by rw [hw3]; exact (y2.alloc _).far _ (by omega)
      have o3 : Own w3 (w.heap.size + 2) (some ⟨g, 0, none⟩) n c2 l := by rw [hw3]; exact (o2.below (new_lt _ _)).kept (grown_setCell _ _ _ _) (fun p hp => by injection hp with hp; omega)
      have b3 : Below w.heap.size w w3 := by rw [hw3]; exact (b02.alloc (by omega) _).setCell (p := ⟨w.heap.size, 0, none⟩) (Nat.le_refl _) _
      have cx2 := (x2.alloc (.cells #[.int .i64 R] 25)).cell
      have fx2 := (x2.alloc (.cells #[.int .i64 R] 25)).free
      have cI := o3.cell' (j := i + 1) hi
      have cK := o3.cell' (j := K) (by omega)
      have fI : w3.frozen? ⟨g, i + 1, none⟩ = false := World.ownsRow.frozenAt o3 (i + 1)
      obtain ⟨a, ha⟩ : ∃ a, a = l.getD (i + 1) 0 := ⟨_, rfl⟩
      obtain ⟨b, hb⟩ : ∃ b, b = l.getD K 0 := ⟨_, rfl⟩
      rw [← ha] at cI
      rw [← hb] at cK
      have o4 := own_put' o3 (i + 1) b
      have cK4 := o4.cell' (j := K) (by omega)
      have fK4 : (w3.setCell ⟨g, i + 1, none⟩ (.int .i64 b)).frozen? ⟨g, K, none⟩ = false := World.ownsRow.frozenAt o4 K
      generalize (l.set (i + 1) b).getD K 0 = v4 at cK4
      have O5 := Lib.hid (show Own ((w3.setCell ⟨g, i + 1, none⟩ (.int .i64 b)).setCell ⟨g, K, none⟩ (.int .i64 a)) (w.heap.size + 2) (some ⟨g, 0, none⟩) n c2 (swapped l (i + 1) K) by
        have := own_put' o4 K a
        rw [ha, hb] at this ⊢
        exact this)
      have X5 := Lib.hid ((x3.far (q := g) (i := i + 1) (.int .i64 b) (by omega)).far (q := g) (i := K) (.int .i64 a) (by omega))
      have Y5 := Lib.hid ((y3.far (q := g) (i := i + 1) (.int .i64 b) (by omega)).far (q := g) (i := K) (.int .i64 a) (by omega))
      have B5 := Lib.hid ((b3.setCell (p := ⟨g, i + 1, none⟩) (by show w.heap.size ≤ g; omega) (.int .i64 b)).setCell (p := ⟨g, K, none⟩) (by show w.heap.size ≤ g; omega) (.int .i64 a))
      have i0 : (0 : Int) ≤ (i : Int) + 1 := by omega
      have i1 : (i : Int) + 1 < (n : Int) := by omega
      have k0 : (0 : Int) ≤ (K : Int) := by omega
      have k1 : (K : Int) < (n : Int) := by omega
      rw [hw3] at cI cK fI cK4 fK4 O5 X5 Y5 B5
      clear ha hb hw3 x2 y2 o2 x3 y3 o3 b3 o4 b02
      go_wp2
      go_roundw
      case rel => exact ⟨(i : Int), R, swapped l (i + 1) K, by omega, by omega, by go_num, by rw [HF.out]; exact HS.out, HRO.out, O5.out, X5.out, Y5.out, B5.out⟩
      case measure => simp [intOf] <;> omega
    · have cy := hy.cell
      have fy := hy.free
      have hne : w.heap.size ≠ w.heap.size + 1 := by omega
      have O5 := Lib.hid (hown.kept (grown_setCell wr (w.heap.size + 1) 0 (.int .i64 d)) (fun p hp => by injection hp with hp; omega))
      have B5 := Lib.hid (hbel.setCell (p := ⟨w.heap.size + 1, 0, none⟩) (by simp) (.int .i64 d))
      have HE := Lib.hid (show shuffled s xs = (d, l) by rw [HF.out, show j.toNat = 0 by omega]; rfl)
      clear hown hx hy hbel
      go_wp2
      refine bodyPost_ret (v := .tuple #[.agg #[.int .i64 d], .slice G n c2]) (by simp [results, Try.results31, go_sem, cy]) rfl ⟨G, n, c2, ?_, ?_, B5.out⟩
      · rw [HE.out]
      · rw [HE.out]
        exact O5.out.up (by omega)

end Go.Proofs.Ytbpefenbpfaeaaa

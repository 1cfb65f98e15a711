/-
  Spread, of the model of chapter 2: so many numbers under a bound, in new memory.
-/
import Derived.Test.YtbpefenbpfaeaaaDicU
import Derived.Test.YtbpefenbpfaeaaaDraw
import Derived.Test.YtbpefenbpfaeaaaCopyB
import Derived.Maps.Range
namespace Go.Proofs.Ytbpefenbpfaeaaa
open Go.RowKit

def spreadTo (s n : Int) : Nat → Int × List Int
  | 0 => (s, [])
  | k + 1 => (rollN (spreadTo s n k).1, (spreadTo s n k).2 ++ [rollN (spreadTo s n k).1 % n])
def manyOk (m : Int) : Bool := decide (0 ≤ m) && decide (m ≤ 64)
def spread (s m n : Int) : Int × List Int := if diceOk s = true then (if manyOk m = true ∧ nOk n = true then spreadTo s n m.toNat else (s, [])) else (0, [])

theorem manyOk_iff {m : Int} : manyOk m = true ↔ 0 ≤ m ∧ m ≤ 64 := by simp [manyOk]
theorem many_in (m : Int) : (decide (0 ≤ m) && decide (m ≤ 64)) = manyOk m := rfl
theorem spreadTo_ok {s n : Int} (h : diceOk s = true) (k : Nat) : diceOk (spreadTo s n k).1 = true := by
  cases k with
  | zero => exact h
  | succ k => exact rollN_ok _
theorem spreadTo_len (s n : Int) (k : Nat) : (spreadTo s n k).2.length = k := by
  induction k with
  | zero => rfl
  | succ k ih => simp [spreadTo, ih]
theorem under_yes {s n : Int} (h : diceOk s = true) (hn : nOk n = true) : under s n = (rollN s, rollN s % n) := by simp [under, h, hn]

/-- Block p is a box of one number. -/
def Box (w : World) (p : Nat) (x : Int) : Prop := w.heap[p]? = some (.cells #[.int .i64 x] 25 (0, 0))
theorem Box.below {w w' : World} {p B : Nat} {x : Int} (h : Box w p x) (hb : Below B w w') (hp : p < B) : Box w' p x := (hb.block p hp).trans h
theorem Box.cell {w : World} {p : Nat} {x : Int} (h : Box w p x) : w.cell? ⟨p, 0, none⟩ = some (.int .i64 x) := cell_of_blk h 0
theorem Box.free {w : World} {p : Nat} {x : Int} (h : Box w p x) : w.frozen? ⟨p, 0, none⟩ = false := free_of_blk h 0
theorem Box.set_ {w : World} {p : Nat} {x : Int} (h : Box w p x) (y : Int) : Box (w.setCell ⟨p, 0, none⟩ (.int .i64 y)) p y := set_blk h 0 _
theorem Box.far {w : World} {p q i : Nat} {x : Int} (h : Box w p x) (u : Value) (hne : p ≠ q) : Box (w.setCell ⟨q, i, none⟩ u) p x := by
  unfold Box at *
  rw [Below.heap_setCell w ⟨q, i, none⟩ u p hne]
  exact h
theorem Box.lt {w : World} {p : Nat} {x : Int} (h : Box w p x) : p < w.heap.size := by
  unfold Box at h
  rcases Nat.lt_or_ge p w.heap.size with hlt | hge
  · exact hlt
  · rw [Array.getElem?_eq_none hge] at h; cases h
theorem Box.new (w : World) (x : Int) : Box (w.alloc (.cells #[.int .i64 x] 25)) w.heap.size x := heap_alloc_new w _
theorem Box.alloc {w : World} {p : Nat} {x : Int} (h : Box w p x) (o : Obj) : Box (w.alloc o) p x := h.below (new_lt w o) h.lt

/-- A generator and a new row are handed back; what was there is as it was. -/
def MadeDR (w : World) (r : Int × List Int) (e : Ending) (w' : World) : Prop :=
  ∃ A n c, e = .returned (.tuple #[.agg #[.int .i64 r.1], .slice A n c]) ∧ Own w' w.heap.size A n c r.2 ∧ Below w.heap.size w w'

/-- The length of a slice value, for a loop's measure. -/
def lenOf : Value → Nat | .slice _ n _ => n | _ => 0

theorem Own.below_set {w : World} {base : Nat} {A : Option Addr} {n c p : Nat} {xs : List Int} {x y : Int} (o : Own w base A n c xs) (_ : w.cell? ⟨p, 0, none⟩ = some (.int .i64 x)) (hp : p < base := by omega) : Own (w.setCell ⟨p, 0, none⟩ (.int .i64 y)) base A n c xs :=
  o.kept (grown_setCell _ _ _ _) (fun k hk => by injection hk with hk; omega)

set_option maxHeartbeats 3200000 in
theorem sSpread_any (s m n : Int) (w : World) :
    Calls Try.prog 14 #[.agg #[.int .i64 s], .int .i64 m, .int .i64 n] w (MadeDR w (spread s m n)) := by
  obtain ⟨w0, hw0⟩ : ∃ w0, w0 = ((w.alloc (.cells #[.int .i64 s] 25)).alloc (.cells #[.int .i64 0] 25)).alloc (.cells #[] 2) := ⟨_, rfl⟩
  have x0 : Box w0 w.heap.size s := by rw [hw0]; exact ((Box.new w s).alloc _).alloc _
  have y0 : Box w0 (w.heap.size + 1) 0 := by
    rw [hw0]
    have := (Box.new (w.alloc (.cells #[.int .i64 s] 25)) 0).alloc (.cells #[] 2)
    simpa using this
  have o0 : Own w0 (w.heap.size + 2) (some ⟨w.heap.size + 2, 0, none⟩) 0 0 [] := by
    rw [hw0]
    have := own_empty ((w.alloc (.cells #[.int .i64 s] 25)).alloc (.cells #[.int .i64 0] 25))
    simpa using this
  have b0 : Below w.heap.size w w0 := by
    rw [hw0]
    exact (((Below.refl _ w).alloc (Nat.le_refl _) _).alloc (by simp) _).alloc (by simp; omega) _
  have z0 : w0.heap.size = w.heap.size + 3 := by rw [hw0]; simp
  have HW := Lib.hid hw0
  have X0 := Lib.hid x0
  have Y0 := Lib.hid y0
  have O0 := Lib.hid o0
  have B0 := Lib.hid b0
  have Z0 := Lib.hid z0
  have z0' : w.heap.size + 1 < w0.heap.size := by omega
  clear hw0 x0 y0 o0 b0 z0
  cases hd : diceOk s
  · have HR := Lib.hid (show spread s m n = (0, []) by simp [spread, hd])
    go_enter Try.func14, Try.ntmps14
    go_wp2_with fail
    rw [← HW.out]
    refine (sDiceOk_any s _).mono ?_
    rintro e w1 ⟨rfl, b1⟩
    rw [hd]
    have y1 := Y0.out.below b1 z0'
    have c1 := y1.cell
    have f1 := y1.free
    have O1 := Lib.hid ((O0.out.below b1).below_set (y := 0) c1)
    have B1 := Lib.hid ((B0.out.trans (b1.mono B0.out.size)).setCell (p := ⟨w.heap.size + 1, 0, none⟩) (by simp) (.int .i64 0))
    clear y1 b1
    go_wp2
    refine bodyPost_ret (v := .tuple #[.agg #[.int .i64 0], .slice (some ⟨w.heap.size + 2, 0, none⟩) 0 0]) (by simp [results, Try.results14, go_sem, c1]) rfl ⟨_, 0, 0, by rw [HR.out], ?_, B1.out⟩
    rw [HR.out]
    exact O1.out.up (by omega)
  have HD := Lib.hid hd
  clear hd
  by_cases hmn : manyOk m = true ∧ nOk n = true
  · obtain ⟨hm, hn⟩ := hmn
    have HR := Lib.hid (show spread s m n = spreadTo s n m.toNat by simp [spread, HD.out, hm, hn])
    obtain ⟨m0, m1⟩ := manyOk_iff.1 hm
    obtain ⟨M, rfl⟩ := Int.eq_ofNat_of_zero_le m0
    have HM := Lib.hid hm
    have HN := Lib.hid hn
    clear hm hn
    go_enter Try.func14, Try.ntmps14
    go_wp2_with fail
    rw [← HW.out]
    refine (sDiceOk_any s _).mono ?_
    rintro e w1 ⟨rfl, b1⟩
    rw [HD.out]
    go_wp2_with fail
    refine (in_any _ _ _ _).mono ?_
    rintro e w1' ⟨rfl, rfl⟩
    rw [many_in, HM.out]
    go_wp2_with fail
    refine (in_any _ _ _ _).mono ?_
    rintro e w1' ⟨rfl, rfl⟩
    rw [nOk_in, HN.out]
    have X1 := Lib.hid (X0.out.below b1 (by omega))
    have Y1 := Lib.hid (Y0.out.below b1 z0')
    have O1 := Lib.hid (O0.out.below b1)
    have B1 := Lib.hid (B0.out.trans (b1.mono B0.out.size))
    clear b1
    go_wp2
    go_loopw [8] (fun r wr => ∃ (k c : Nat) (G : Option Addr), k ≤ M ∧ r = .slice G k c ∧ Own wr (w.heap.size + 2) G k c (spreadTo s n k).2 ∧ Box wr w.heap.size (spreadTo s n k).1 ∧ Box wr (w.heap.size + 1) 0 ∧ Below w.heap.size w wr) (fun r _ => M - lenOf r)
    case atStart => exact ⟨0, 0, _, Nat.zero_le _, rfl, O1.out, X1.out, Y1.out, B1.out⟩
    case round =>
      obtain ⟨k, c, G, hk, rfl, hown, hx, hy, hbel⟩ := hrel
      clear X1 Y1 O1 B1 X0 Y0 O0 B0
      have z := hy.lt
      have HDk := Lib.hid (spreadTo_ok (n := n) HD.out k)
      have HU := Lib.hid (under_yes HDk.out HN.out)
      have HS := Lib.hid (show spreadTo s n (k + 1) = (rollN (spreadTo s n k).1, (spreadTo s n k).2 ++ [rollN (spreadTo s n k).1 % n]) from rfl)
      have HE := Lib.hid (show M = k → spread s (M : Int) n = spreadTo s n k from fun e => by rw [HR.out, e]; rfl)
      obtain ⟨L, hL⟩ : ∃ L, L = (spreadTo s n k).2 := ⟨_, rfl⟩
      obtain ⟨D, hD⟩ : ∃ D, D = (spreadTo s n k).1 := ⟨_, rfl⟩
      rw [← hL] at hown HS
      rw [← hD] at hx HS HU HDk
      have HSP := Lib.hid (show spreadTo s n k = (D, L) by rw [hL, hD])
      clear hL hD
      have cx := hx.cell
      have fx := hx.free
      by_cases hlt : k < M
      · have hi : (k : Int) < (M : Int) := by omega
        go_wp2_with fail
        refine (sUnder_any D n _).mono ?_
        rintro e w2 ⟨rfl, b2⟩
        rw [HU.out]
        have x2 := hx.below b2 (by omega)
        have y2 := hy.below b2 z
        have o2 := hown.below b2
        have z2 := b2.size
        have b02 := hbel.trans (b2.mono hbel.size)
        generalize rollN D % n = K at *
        generalize rollN D = R at *
        clear hx hy hown hbel b2 cx fx
        -- the box of x, the store into d, the box of the one number
        obtain ⟨w3, hw3⟩ : ∃ w3, w3 = ((w2.alloc (.cells #[.int .i64 R] 25)).setCell ⟨w.heap.size, 0, none⟩ (.int .i64 R)) := ⟨_, rfl⟩
        have x3 : Box w3 w.heap.size R := by rw [hw3]; exact (x2.alloc _).set_ R
        have y3 : Box w3 (w.heap.size + 1) 0 := by rw [hw3]; exact (y2.alloc _).far _ (by omega)
        have o3 : Own w3 (w.heap.size + 2) G k c L := by rw [hw3]; exact (o2.below (new_lt _ _)).kept (grown_setCell _ _ _ _) (fun p hp => by injection hp with hp; omega)
        have b3 : Below w.heap.size w w3 := by rw [hw3]; exact (b02.alloc (by omega) _).setCell (p := ⟨w.heap.size, 0, none⟩) (Nat.le_refl _) _
        have z3 : w3.heap.size = w2.heap.size + 1 := by rw [hw3]; simp
        have o4 := o3.below (new_lt w3 (.cells #[.int .i64 K] 2))
        have r4 := (own_one w3 K).irow
        have cx2 := (x2.alloc (.cells #[.int .i64 R] 25)).cell
        have fx2 := (x2.alloc (.cells #[.int .i64 R] 25)).free
        have X3 := Lib.hid x3
        have Y3 := Lib.hid y3
        have B3 := Lib.hid b3
        have Z3 := Lib.hid z3
        have O3 := Lib.hid o3
        rw [z3] at r4
        rw [hw3] at o4 r4
        have HW3 := Lib.hid hw3
        clear hw3 x2 y2 o2 x3 y3 b3 z3 o3 b02
        go_wp2_with (first
          | (at_builtin
             refine wpList_append_ints rfl (.tmp 38) (.tmp 40) rfl rfl o4 rfl r4 (by simp; omega) (by omega) ?_
             intro G5 c5 w5 o5 g5 e5))
        have ge : ∀ p, (Value.slice G k c).ownBlock = some p → w.heap.size + 2 ≤ p := fun p hp => (O3.out.ge p hp).1
        rw [← HW3.out] at g5
        have gg : w3.grownBy w5 (Value.slice G k c).ownBlock := (World.grownBy_alloc w3 _ _).trans g5
        have bb := (Below.refl (w.heap.size + 2) w3).grown gg (by have := Z3.out; omega) ge
        go_roundw
        case rel => exact ⟨k + 1, c5, G5, by omega, rfl, by rw [HS.out]; exact o5, by rw [HS.out]; exact X3.out.below bb (by omega), Y3.out.below bb (by omega), B3.out.grown gg B3.out.size (fun p hp => by have := ge p hp; omega)⟩
        case measure => simp [lenOf]; omega
      · have hkM : M = k := by omega
        have cy := hy.cell
        have fy := hy.free
        have hi : ¬ (k : Int) < (M : Int) := by omega
        have hne : w.heap.size ≠ w.heap.size + 1 := by omega
        have O5 := Lib.hid (hown.kept (grown_setCell wr (w.heap.size + 1) 0 (.int .i64 D)) (fun p hp => by injection hp with hp; omega))
        have B5 := Lib.hid (hbel.setCell (p := ⟨w.heap.size + 1, 0, none⟩) (by simp) (.int .i64 D))
        have HE' := Lib.hid (HE.out hkM)
        have HSk := Lib.hid hkM
        clear hkM hown hx hy hbel
        go_wp2
        refine bodyPost_ret (v := .tuple #[.agg #[.int .i64 D], .slice G k c]) (by simp [results, Try.results14, go_sem, cy]) rfl ⟨G, k, c, ?_, ?_, B5.out⟩
        · rw [HE'.out, HSP.out]
        · rw [HE'.out, HSP.out]
          exact O5.out.up (by omega)
  · have HR := Lib.hid (show spread s m n = (s, []) by simp [spread, HD.out, hmn])
    have hor : manyOk m = false ∨ (manyOk m = true ∧ nOk n = false) := by
      cases h1 : manyOk m
      · exact .inl rfl
      · right
        refine ⟨rfl, ?_⟩
        cases h2 : nOk n
        · rfl
        · exact absurd ⟨h1, h2⟩ hmn
    clear hmn
    rcases hor with hm | ⟨hm, hn⟩
    · have HM := Lib.hid hm
      clear hm
      go_enter Try.func14, Try.ntmps14
      go_wp2_with fail
      rw [← HW.out]
      refine (sDiceOk_any s _).mono ?_
      rintro e w1 ⟨rfl, b1⟩
      rw [HD.out]
      go_wp2_with fail
      refine (in_any _ _ _ _).mono ?_
      rintro e w1' ⟨rfl, rfl⟩
      rw [many_in, HM.out]
      have y1 := Y0.out.below b1 z0'
      have c1 := y1.cell
      have f1 := y1.free
      have cx := (X0.out.below b1 (by omega)).cell
      have O1 := Lib.hid ((O0.out.below b1).below_set (y := s) c1)
      have B1 := Lib.hid ((B0.out.trans (b1.mono B0.out.size)).setCell (p := ⟨w.heap.size + 1, 0, none⟩) (by simp) (.int .i64 s))
      clear y1 b1
      go_wp2
      refine bodyPost_ret (v := .tuple #[.agg #[.int .i64 s], .slice (some ⟨w.heap.size + 2, 0, none⟩) 0 0]) (by simp [results, Try.results14, go_sem, c1]) rfl ⟨_, 0, 0, by rw [HR.out], ?_, B1.out⟩
      rw [HR.out]
      exact O1.out.up (by omega)
    · have HM := Lib.hid hm
      have HN := Lib.hid hn
      clear hm hn
      go_enter Try.func14, Try.ntmps14
      go_wp2_with fail
      rw [← HW.out]
      refine (sDiceOk_any s _).mono ?_
      rintro e w1 ⟨rfl, b1⟩
      rw [HD.out]
      go_wp2_with fail
      refine (in_any _ _ _ _).mono ?_
      rintro e w1' ⟨rfl, rfl⟩
      rw [many_in, HM.out]
      go_wp2_with fail
      refine (in_any _ _ _ _).mono ?_
      rintro e w1' ⟨rfl, rfl⟩
      rw [nOk_in, HN.out]
      have y1 := Y0.out.below b1 z0'
      have c1 := y1.cell
      have f1 := y1.free
      have cx := (X0.out.below b1 (by omega)).cell
      have O1 := Lib.hid ((O0.out.below b1).below_set (y := s) c1)
      have B1 := Lib.hid ((B0.out.trans (b1.mono B0.out.size)).setCell (p := ⟨w.heap.size + 1, 0, none⟩) (by simp) (.int .i64 s))
      clear y1 b1
      go_wp2
      refine bodyPost_ret (v := .tuple #[.agg #[.int .i64 s], .slice (some ⟨w.heap.size + 2, 0, none⟩) 0 0]) (by simp [results, Try.results14, go_sem, c1]) rfl ⟨_, 0, 0, by rw [HR.out], ?_, B1.out⟩
      rw [HR.out]
      exact O1.out.up (by omega)

end Go.Proofs.Ytbpefenbpfaeaaa

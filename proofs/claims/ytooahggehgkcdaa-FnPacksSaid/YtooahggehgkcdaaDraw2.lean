/-
  The model's draws of numbers and rows: each hands back some number, or some row of at most 49 numbers in new memory, and writes nothing but the cursor.
-/
import Derived.Test.YtooahggehgkcdaaDraw
import Derived.Test.YtooahggehgkcdaaCopy
import Derived.Maps.Range
namespace Go.Proofs.Ytooahggehgkcdaa
open Go.RowKit

theorem own_lit (w : World) (l : List Int) (hl : l.length ≤ maxLen) : Own (w.alloc (.cells (ivals l).toArray 2)) w.heap.size (some ⟨w.heap.size, 0, none⟩) l.length l.length l := by
  have := World.ownsRow_lit (base := w.heap.size) (e := 2) (size := 1) w (ivals l).toArray l.length (Nat.le_refl _) hl (by simp [ivals])
  simpa [Own] using this

theorem Own.cell {w : World} {base g n c : Nat} {xs : List Int} (o : Own w base (some ⟨g, 0, none⟩) n c xs) {j : Nat} (hj : j < n) : w.cell? ⟨g, j, none⟩ = some (.int .i64 (xs.getD j 0)) := by
  have hl := o.len
  rw [World.ownsRow.cellAt o j (by omega), ivals_get, List.getElem?_eq_getElem (by omega)]
  simp [List.getD, List.getElem?_eq_getElem (show j < xs.length by omega)]

/-- A bool is handed back; nothing but the cursor p is written. -/
def RollsB (w : World) (B p : Nat) (e : Ending) (w' : World) : Prop :=
  ∃ b : Bool, e = .returned (.bool b) ∧ Cur w' B p ∧ w.grownBy w' (some p)

theorem once_any (B p : Nat) (w : World) (h : Cur w B p) (n : Int) (n0 : 0 < n) (n1 : n ≤ 1000000001) :
    Calls Try.prog 48 #[.pointer (some ⟨p, 0, none⟩), .int .i64 n] w (RollsB w B p) := by
  go_enter Try.func48, Try.ntmps48
  go_wp2_with fail
  refine (below_any B p _ h n n0 n1).mono ?_
  rintro e w1 ⟨x, ⟨x0, x1⟩, rfl, c1, g1⟩
  go_wp2
  go_ret
  exact ⟨_, rfl, c1, g1⟩

def Between (lo hi x : Int) : Prop := lo ≤ x ∧ x ≤ hi

theorem from_any (B p : Nat) (w : World) (h : Cur w B p) (lo hi : Int) (l0 : -1000000 ≤ lo) (l1 : lo ≤ hi) (l2 : hi ≤ 1000000) :
    Calls Try.prog 49 #[.pointer (some ⟨p, 0, none⟩), .int .i64 lo, .int .i64 hi] w (Rolls w B p (Between lo hi)) := by
  go_enter Try.func49, Try.ntmps49
  go_wp2_with fail
  refine (below_any B p _ h _ (by omega) (by omega)).mono ?_
  rintro e w1 ⟨x, ⟨x0, x1⟩, rfl, c1, g1⟩
  go_wp2
  go_ret
  exact ⟨_, ⟨by omega, by omega⟩, rfl, c1, g1⟩

theorem min_any (a b : Int) (w : World) :
    Calls Try.prog 63 #[.int .i64 a, .int .i64 b] w fun e w' => e = .returned (.int .i64 (if a < b then a else b)) ∧ w = w' := by
  by_cases h : a < b
  all_goals
    go_enter Try.func63, Try.ntmps63
    go_wp2
    go_ret
    exact ⟨rfl, rfl⟩

def AnyInt (_ : Int) : Prop := True

set_option maxHeartbeats 800000 in
theorem odd_any (B p : Nat) (w : World) (h : Cur w B p) :
    Calls Try.prog 60 #[.pointer (some ⟨p, 0, none⟩)] w (Rolls w B p AnyInt) := by
  have hp := h.lt
  obtain ⟨L, hL⟩ : ∃ L : List Int, L = [-1, 0, 1, 2147483648, -2147483648, 1099511627776, 4611686018427387904, -4611686018427387904, 9223372036854775807, -9223372036854775808] := ⟨_, rfl⟩
  have HL := Lib.hid hL
  have g0 := World.grownBy_alloc w (.cells (ivals L).toArray 2) (some p)
  have o0 := own_lit w L (by rw [hL]; decide)
  have hlen : L.length = 10 := by rw [hL]; rfl
  rw [hlen] at o0
  have c0 := h.kept (World.grownBy_alloc w (.cells (ivals L).toArray 2) none) (fun k hk => by cases hk)
  have hw : w.alloc (.cells #[.int .i64 (-1), .int .i64 0, .int .i64 1, .int .i64 2147483648, .int .i64 (-2147483648), .int .i64 1099511627776, .int .i64 4611686018427387904, .int .i64 (-4611686018427387904), .int .i64 9223372036854775807, .int .i64 (-9223372036854775808)] 2) = w.alloc (.cells (ivals L).toArray 2) := by
    rw [hL]; rfl
  have HW := Lib.hid hw
  clear hL hw hlen
  go_enter Try.func60, Try.ntmps60
  go_wp2_with fail
  rw [HW.out]
  refine (below_any B p _ c0 10 (by omega) (by omega)).mono ?_
  rintro e w1 ⟨x, ⟨x0, x1⟩, rfl, c1, g1⟩
  have o1 := o0.kept g1 (fun k hk => by injection hk with hk; omega)
  have hcell := o1.cell (j := x.toNat) (by omega)
  generalize L.getD x.toNat 0 = y at hcell
  have G := Lib.hid (g0.trans g1)
  clear o0 o1 c0 g0 g1
  go_wp2
  go_ret
  exact ⟨_, trivial, rfl, c1, G.out⟩

set_option maxHeartbeats 1600000 in
theorem num_any (B p : Nat) (w : World) (h : Cur w B p) (most : Int) (m0 : 0 ≤ most) (m1 : most ≤ 1000000000) :
    Calls Try.prog 59 #[.pointer (some ⟨p, 0, none⟩), .int .i64 most] w (Rolls w B p AnyInt) := by
  go_enter Try.func59, Try.ntmps59
  go_wp2_with fail
  refine (once_any B p _ h 10 (by omega) (by omega)).mono ?_
  rintro e w1 ⟨b, rfl, c1, g1⟩
  cases b
  · go_wp2_with fail
    refine (once_any B p _ c1 2 (by omega) (by omega)).mono ?_
    rintro e w2 ⟨b2, rfl, c2, g2⟩
    cases b2
    · go_wp2_with fail
      refine (below_any B p _ c2 _ (by omega) (by omega)).mono ?_
      rintro e w3 ⟨x, _, rfl, c3, g3⟩
      go_wp2
      go_ret
      exact ⟨_, trivial, rfl, c3, (g1.trans g2).trans g3⟩
    · go_wp2_with fail
      refine (min_any most 4 _).mono ?_
      rintro e w2' ⟨rfl, rfl⟩
      obtain ⟨q, hq⟩ : ∃ q : Int, q = if most < 4 then most else 4 := ⟨_, rfl⟩
      have q0 : 0 ≤ q := by rw [hq]; split <;> omega
      have q1 : q ≤ 4 := by rw [hq]; split <;> omega
      rw [← hq]
      clear hq
      go_wp2_with fail
      refine (below_any B p _ c2 _ (by omega) (by omega)).mono ?_
      rintro e w3 ⟨x, _, rfl, c3, g3⟩
      go_wp2
      go_ret
      exact ⟨_, trivial, rfl, c3, (g1.trans g2).trans g3⟩
  · go_wp2_with fail
    refine (odd_any B p _ c1).mono ?_
    rintro e w2 ⟨y, _, rfl, c2, g2⟩
    have hp := c2.lt
    have g0 := World.grownBy_alloc w2 (.cells (ivals [-1, most, most + 1, y]).toArray 2) (some p)
    have o0 : Own (w2.alloc (.cells (ivals [-1, most, most + 1, y]).toArray 2)) w2.heap.size (some ⟨w2.heap.size, 0, none⟩) 4 4 [-1, most, most + 1, y] := own_lit w2 [-1, most, most + 1, y] (by simp [maxLen])
    have c0 := c2.kept (World.grownBy_alloc w2 (.cells (ivals [-1, most, most + 1, y]).toArray 2) none) (fun k hk => by cases hk)
    have G0 := Lib.hid ((g1.trans g2).trans g0)
    have O0 := Lib.hid o0
    have C0 := Lib.hid c0
    clear o0 c0 g0 g1 g2
    go_wp2_with fail
    refine (below_any B p _ C0.out 4 (by omega) (by omega)).mono ?_
    rintro e w3 ⟨x, ⟨x0, x1⟩, rfl, c3, g3⟩
    have o1 := O0.out.kept g3 (fun k hk => by injection hk with hk; omega)
    have hcell := o1.cell (j := x.toNat) (by omega)
    generalize [-1, most, most + 1, y].getD x.toNat 0 = z at hcell
    have G := Lib.hid (G0.out.trans g3)
    clear o1 g3
    go_wp2
    go_ret
    exact ⟨_, trivial, rfl, c3, G.out⟩

/-- Some row of at most 50 numbers in new memory is handed back; nothing but the cursor p is written. -/
def DrawnRow (w : World) (B p : Nat) (e : Ending) (w' : World) : Prop :=
  ∃ A n c xs, e = .returned (.slice A n c) ∧ Own w' w.heap.size A n c xs ∧ n ≤ 50 ∧ Cur w' B p ∧ w.grownBy w' (some p)

theorem cur_alloc {w : World} {B p : Nat} (h : Cur w B p) (o : Obj) : Cur (w.alloc o) B p := h.kept (World.grownBy_alloc w o none) (fun k hk => by cases hk)

/-- One number more at the end of an own row: what stands behind 'append(row, x)'. -/
theorem push_ints {w w1 w2 : World} {B p base : Nat} {A : Option Addr} {n c : Nat} {xs : List Int} {x : Int}
    (c1 : Cur w1 B p) (hp : p < base) (g1 : w.grownBy w1 (some p)) (o1 : Own w1 base A n c xs)
    (g2 : (w1.alloc (.cells #[.int .i64 x] 2)).grownBy w2 (Value.slice A n c).ownBlock) (hbase : w.heap.size = base) :
    Cur w2 B p ∧ w.grownBy w2 (some p) := by
  have ge : ∀ k, (Value.slice A n c).ownBlock = some k → base ≤ k := fun k hk => (o1.ge k hk).1
  refine ⟨(cur_alloc c1 _).kept g2 (fun k hk => by have := ge k hk; omega), ?_⟩
  exact (g1.trans (World.grownBy_alloc w1 _ (some p))).andThen g2 (fun j hj => .inl (by have := ge j hj; omega))

/-- .. of at most 7 numbers. -/
def DrawnRow7 (w : World) (B p : Nat) (e : Ending) (w' : World) : Prop :=
  ∃ A n c xs, e = .returned (.slice A n c) ∧ Own w' w.heap.size A n c xs ∧ n ≤ 7 ∧ Cur w' B p ∧ w.grownBy w' (some p)

set_option maxHeartbeats 1600000 in
theorem drawRow_any7 (B p : Nat) (w : World) (h : Cur w B p) :
    Calls Try.prog 58 #[.pointer (some ⟨p, 0, none⟩)] w (DrawnRow7 w B p) := by
  have hp := h.lt
  have c0 := Lib.hid (cur_alloc h (.cells #[] 2))
  have o0 := Lib.hid (own_empty w)
  have g0 := Lib.hid (World.grownBy_alloc w (.cells #[] 2) (some p))
  clear h
  go_enter Try.func58, Try.ntmps58
  go_wp2_with fail
  refine (below_any B p _ c0.out 8 (by omega) (by omega)).mono ?_
  rintro e w1 ⟨x, ⟨x0, x1⟩, rfl, c1, g1⟩
  have o1 := Lib.hid (o0.out.kept g1 (fun k hk => by injection hk with hk; omega))
  have G1 := Lib.hid (g0.out.trans g1)
  have C1 := Lib.hid c1
  obtain ⟨q, rfl⟩ := Int.eq_ofNat_of_zero_le x0
  clear c1 g1
  go_wp2
  go_loopw [3, 4] (fun r i wr => ∃ (k n c : Nat) (A : Option Addr) (xs : List Int), i = .int .i64 (k : Int) ∧ n + k ≤ 7 ∧ r = .slice A n c ∧ Own wr w.heap.size A n c xs ∧ Cur wr B p ∧ w.grownBy wr (some p)) (fun _ i _ => (intOf i).toNat)
  case atStart => exact ⟨q, 0, 0, _, [], rfl, by omega, rfl, o1.out, C1.out, G1.out⟩
  case round =>
    obtain ⟨k, n, c, A, xs, rfl, hnk, rfl, hown, hcur, hgr⟩ := hrel
    rcases k with _ | k
    · go_wp2
      go_ret
      exact ⟨A, n, c, xs, rfl, hown, by omega, hcur, hgr⟩
    · have i0 : (0 : Int) < (k : Int) + 1 := by omega
      go_wp2_with fail
      refine (below_any B p _ hcur 50 (by omega) (by omega)).mono ?_
      rintro e w2 ⟨y, _, rfl, c2, g2⟩
      have o2 := hown.kept g2 (fun j hj => by injection hj with hj; omega)
      have g02 := hgr.trans g2
      have o2' := o2.below ((Below.refl _ w2).alloc (Nat.le_refl _) (.cells #[.int .i64 y] 2))
      have r2 := (own_one w2 y).irow
      have zb : w.heap.size ≤ (w2.alloc (.cells #[.int .i64 y] 2)).heap.size := by have := g02.size; simp; omega
      clear hown hcur hgr g2
      go_wp2_with (first
        | (at_builtin
           refine wpList_append_ints rfl (.tmp 12) (.tmp 15) rfl rfl o2' rfl r2 zb (by omega) ?_
           intro A3 c3 w3 o3 g3 e3))
      have R := push_ints c2 hp g02 o2 g3 rfl
      go_roundw
      case rel => exact ⟨k, n + 1, c3, A3, xs ++ [y], by go_num, by omega, rfl, o3, R.1, R.2⟩
      case measure => simp [intOf]

set_option maxHeartbeats 1600000 in
theorem drawAny_any (B p : Nat) (w : World) (h : Cur w B p) :
    Calls Try.prog 44 #[.pointer (some ⟨p, 0, none⟩)] w (DrawnRow w B p) := by
  have hp := h.lt
  go_enter Try.func44, Try.ntmps44
  go_wp2_with fail
  refine (drawRow_any7 B p _ h).mono ?_
  rintro e w1 ⟨A, n, c, xs, rfl, o1, hn, c1, g1⟩
  go_wp2_with fail
  refine (once_any B p _ c1 6 (by omega) (by omega)).mono ?_
  rintro e w2 ⟨b, rfl, c2, g2⟩
  have o2 := o1.kept g2 (fun j hj => by injection hj with hj; omega)
  have g02 := g1.trans g2
  clear o1 c1 g1 g2
  cases b
  · go_wp2
    go_ret
    exact ⟨A, n, c, xs, rfl, o2, by omega, c2, g02⟩
  · go_wp2_with fail
    refine (below_any B p _ c2 3 (by omega) (by omega)).mono ?_
    rintro e w3 ⟨x, ⟨x0, x1⟩, rfl, c3, g3⟩
    have o3 := o2.kept g3 (fun j hj => by injection hj with hj; omega)
    have g03 := g02.trans g3
    clear o2 c2 g02 g3 h
    rcases (show x = 0 ∨ x = 1 ∨ x = 2 from by omega) with rfl | rfl | rfl
    · go_wp2_with fail
      refine (num_any B p _ c3 1000000000 (by omega) (by omega)).mono ?_
      rintro e w4 ⟨y, _, rfl, c4, g4⟩
      have o4 := o3.kept g4 (fun j hj => by injection hj with hj; omega)
      have g04 := g03.trans g4
      have o4' := o4.below ((Below.refl _ w4).alloc (Nat.le_refl _) (.cells #[.int .i64 y] 2))
      have r4 := (own_one w4 y).irow
      have zb : w.heap.size ≤ (w4.alloc (.cells #[.int .i64 y] 2)).heap.size := by have := g04.size; simp; omega
      clear o3 c3 g03 g4
      go_wp2_with (first
        | (at_builtin
           refine wpList_append_ints rfl (.tmp 12) (.tmp 15) rfl rfl o4' rfl r4 zb (by omega) ?_
           intro A5 c5 w5 o5 g5 e5))
      have R := push_ints c4 hp g04 o4 g5 rfl
      go_ret
      exact ⟨A5, n + 1, c5, _, rfl, o5, by omega, R.1, R.2⟩
    · go_wp2_with fail
      refine (from_any B p _ c3 (-1) 1 (by omega) (by omega) (by omega)).mono ?_
      rintro e w4 ⟨y, ⟨y0, y1⟩, rfl, c4, g4⟩
      have g04 := g03.trans g4
      obtain ⟨k, hk⟩ := Int.eq_ofNat_of_zero_le (show 0 ≤ 48 + y by omega)
      have hmk := run_make_row' (P := Try.prog) 24 2 (.int .i64 0) 8 Try.underlying24 info64 rfl .i64 .i64 k (by omega) (by omega)
      rw [← hk] at hmk
      have ho : Own (w4.alloc (.cells (madeCells #[.int .i64 0] k) 2)) w4.heap.size (some ⟨w4.heap.size, 0, none⟩) k k (List.replicate k 0) := by
        have := World.ownsRow_lit (base := w4.heap.size) (e := 2) (size := 1) w4 (madeCells #[.int .i64 0] k) k (Nat.le_refl _) (by simp only [maxLen]; omega) (by rw [size_madeCells]; omega)
        rw [toList_madeCells_one] at this
        simpa [Own, ivals] using this
      have HO := Lib.hid ho
      have HC := Lib.hid (cur_alloc c4 (.cells (madeCells #[.int .i64 0] k) 2))
      have HG := Lib.hid (g04.trans (World.grownBy_alloc w4 (.cells (madeCells #[.int .i64 0] k) 2) (some p)))
      have k49 : k ≤ 49 := by omega
      have HZ := Lib.hid g04.size
      clear o3 c3 g03 g4 ho c4 g04 hk
      go_wp2
      go_ret
      exact ⟨_, k, k, _, rfl, HO.out.up HZ.out, by omega, HC.out, HG.out⟩
    · go_wp2_with fail
      refine (odd_any B p _ c3).mono ?_
      rintro e w4 ⟨y, _, rfl, c4, g4⟩
      have o4 := o3.kept g4 (fun j hj => by injection hj with hj; omega)
      have g04 := g03.trans g4
      have o4' := o4.below ((Below.refl _ w4).alloc (Nat.le_refl _) (.cells #[.int .i64 y] 2))
      have r4 := (own_one w4 y).irow
      have zb : w.heap.size ≤ (w4.alloc (.cells #[.int .i64 y] 2)).heap.size := by have := g04.size; simp; omega
      clear o3 c3 g03 g4
      go_wp2_with (first
        | (at_builtin
           refine wpList_append_ints rfl (.tmp 25) (.tmp 28) rfl rfl o4' rfl r4 zb (by omega) ?_
           intro A5 c5 w5 o5 g5 e5))
      have R := push_ints c4 hp g04 o4 g5 rfl
      go_ret
      exact ⟨A5, n + 1, c5, _, rfl, o5, by omega, R.1, R.2⟩

set_option maxHeartbeats 800000 in
theorem new_any (A : Option Addr) (n c : Nat) (w : World) (h : BRow w w.heap.size A n) (hn : n ≤ 4096) :
    Calls Try.prog 43 #[.slice A n c] w fun e w' => e = .returned (.pointer (some ⟨w.heap.size, 0, none⟩)) ∧ Cur w' w.heap.size w.heap.size ∧ Below w.heap.size w w' := by
  go_enter Try.func43, Try.ntmps43
  go_wp2
  go_loop [3, 4] (fun s i => ∃ (k : Nat) (q : Int), k ≤ n ∧ i = .int .i64 (k : Int) ∧ s = .int .i64 q) (fun _ i => n - (intOf i).toNat)
  case atStart => exact ⟨0, _, Nat.zero_le _, rfl, rfl⟩
  case round =>
    obtain ⟨k, q, hk, rfl, rfl⟩ := hrel
    by_cases hlt : k < n
    · obtain ⟨b, off, rfl, hb, hc⟩ := h (by omega)
      obtain ⟨v, hv, v0, v1⟩ := hc k hlt
      clear hc h
      go_wp2
      go_round
      case rel => exact ⟨k + 1, _, by omega, by go_num, rfl⟩
      case measure => simp [intOf]; omega
    · go_wp2
      go_ret
      refine ⟨rfl, ⟨A, n, c, 0, q, heap_alloc_new w _, ?_, Nat.le_refl _, hn, Nat.zero_le _⟩, (Below.refl _ _).alloc (Nat.le_refl _) _⟩
      exact h.below ((Below.refl _ _).alloc (Nat.le_refl _) _)

theorem drawWith_any (A : Option Addr) (n c : Nat) (w : World) (h : BRow w w.heap.size A n) (hn : n ≤ 4096) :
    Calls Try.prog 13 #[.slice A n c] w fun e w' => ∃ A' n' c' xs, e = .returned (.slice A' n' c') ∧ Own w' w.heap.size A' n' c' xs ∧ n' ≤ 50 ∧ Below w.heap.size w w' := by
  go_enter Try.func13, Try.ntmps13
  go_wp2_with fail
  refine (new_any A n c _ h hn).mono ?_
  rintro e w1 ⟨rfl, c1, b1⟩
  go_wp2_with fail
  refine (drawAny_any _ _ _ c1).mono ?_
  rintro e w2 ⟨A2, n2, c2, xs, rfl, o2, hn2, cc, g2⟩
  go_wp2
  go_ret
  exact ⟨A2, n2, c2, xs, rfl, o2.up b1.size, hn2, b1.grown g2 b1.size (fun k hk => by injection hk with hk; omega)⟩

end Go.Proofs.Ytooahggehgkcdaa

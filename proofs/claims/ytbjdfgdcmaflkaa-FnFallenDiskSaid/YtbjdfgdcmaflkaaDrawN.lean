/-
  The model's draws of numbers: a truth, some number, nothing but the cursor written.
-/
import Derived.Test.YtbjdfgdcmaflkaaDraw
import Derived.Test.YtbjdfgdcmaflkaaCopyB
import Derived.Maps.Range
namespace Go.Proofs.Ytbjdfgdcmaflkaa
open Go.RowKit

theorem own_lit (w : World) (l : List Int) (hl : l.length ≤ maxLen) : Own (w.alloc (.cells (ivals l).toArray 2)) w.heap.size (some ⟨w.heap.size, 0, none⟩) l.length l.length l := by
  have := World.ownsRow_lit (base := w.heap.size) (e := 2) (size := 1) w (ivals l).toArray l.length (Nat.le_refl _) hl (by simp [ivals])
  simpa [Own] using this

theorem Own.cell {w : World} {base g n c : Nat} {xs : List Int} (o : Own w base (some ⟨g, 0, none⟩) n c xs) {j : Nat} (hj : j < n) : w.cell? ⟨g, j, none⟩ = some (.int .i64 (xs.getD j 0)) := by
  have hl := o.len
  rw [World.ownsRow.cellAt o j (by omega), ivals_get, List.getElem?_eq_getElem (by omega)]
  simp [List.getD, List.getElem?_eq_getElem (show j < xs.length by omega)]

/-- A bool is handed back; nothing but the cursor p is written. -/
def RollsB (w : World) (B p : Nat) (e : Ending) (w' : World) : Prop :=
  ∃ b : Bool, e = .returned (.bool b) ∧ Cur w' B p ∧ w.grownBy w' (some p)

theorem once_any (B p : Nat) (w : World) (h : Cur w B p) (n : Int) (n0 : 0 < n) (n1 : n ≤ 1000000001) :
    Calls Try.prog 71 #[.pointer (some ⟨p, 0, none⟩), .int .i64 n] w (RollsB w B p) := by
  go_enter Try.func71, Try.ntmps71
  go_wp2_with fail
  refine (below_any B p _ h n n0 n1).mono ?_
  rintro e w1 ⟨x, ⟨x0, x1⟩, rfl, c1, g1⟩
  go_wp2
  go_ret
  exact ⟨_, rfl, c1, g1⟩

theorem min_any (a b : Int) (w : World) :
    Calls Try.prog 84 #[.int .i64 a, .int .i64 b] w fun e w' => e = .returned (.int .i64 (if a < b then a else b)) ∧ w = w' := by
  by_cases h : a < b
  all_goals
    go_enter Try.func84, Try.ntmps84
    go_wp2
    go_ret
    exact ⟨rfl, rfl⟩

def AnyInt (_ : Int) : Prop := True

set_option maxHeartbeats 800000 in
theorem odd_any (B p : Nat) (w : World) (h : Cur w B p) :
    Calls Try.prog 75 #[.pointer (some ⟨p, 0, none⟩)] w (Rolls w B p AnyInt) := by
  have hp := h.lt
  obtain ⟨L, hL⟩ : ∃ L : List Int, L = [-1, 0, 1, 2147483648, -2147483648, 1099511627776, 4611686018427387904, -4611686018427387904, 9223372036854775807, -9223372036854775808] := ⟨_, rfl⟩
  have HL := Lib.hid hL
  have g0 := World.grownBy_alloc w (.cells (ivals L).toArray 2) (some p)
  have o0 := own_lit w L (by rw [hL]; decide)
  have hlen : L.length = 10 := by rw [hL]; rfl
  rw [hlen] at o0
  have c0 := h.kept (World.grownBy_alloc w (.cells (ivals L).toArray 2) none) (fun k hk => by cases hk)
  have hw : w.alloc (.cells #[.int .i64 (-1), .int .i64 0, .int .i64 1, .int .i64 2147483648, .int .i64 (-2147483648), .int .i64 1099511627776, .int .i64 4611686018427387904, .int .i64 (-4611686018427387904), .int .i64 9223372036854775807, .int .i64 (-9223372036854775808)] 2) = w.alloc (.cells (ivals L).toArray 2) := by
    rw [hL]; rfl
  have HW := Lib.hid hw
  clear hL hw hlen
  go_enter Try.func75, Try.ntmps75
  go_wp2_with fail
  rw [HW.out]
  refine (below_any B p _ c0 10 (by omega) (by omega)).mono ?_
  rintro e w1 ⟨x, ⟨x0, x1⟩, rfl, c1, g1⟩
  have o1 := o0.kept g1 (fun k hk => by injection hk with hk; omega)
  have hcell := o1.cell (j := x.toNat) (by omega)
  generalize L.getD x.toNat 0 = y at hcell
  have G := Lib.hid (g0.trans g1)
  clear o0 o1 c0 g0 g1
  go_wp2
  go_ret
  exact ⟨_, trivial, rfl, c1, G.out⟩

set_option maxHeartbeats 1600000 in
theorem num_any (B p : Nat) (w : World) (h : Cur w B p) (most : Int) (m0 : 0 ≤ most) (m1 : most ≤ 1000000000) :
    Calls Try.prog 83 #[.pointer (some ⟨p, 0, none⟩), .int .i64 most] w (Rolls w B p AnyInt) := by
  go_enter Try.func83, Try.ntmps83
  go_wp2_with fail
  refine (once_any B p _ h 10 (by omega) (by omega)).mono ?_
  rintro e w1 ⟨b, rfl, c1, g1⟩
  cases b
  · go_wp2_with fail
    refine (once_any B p _ c1 2 (by omega) (by omega)).mono ?_
    rintro e w2 ⟨b2, rfl, c2, g2⟩
    cases b2
    · go_wp2_with fail
      refine (below_any B p _ c2 _ (by omega) (by omega)).mono ?_
      rintro e w3 ⟨x, _, rfl, c3, g3⟩
      go_wp2
      go_ret
      exact ⟨_, trivial, rfl, c3, (g1.trans g2).trans g3⟩
    · go_wp2_with fail
      refine (min_any most 4 _).mono ?_
      rintro e w2' ⟨rfl, rfl⟩
      obtain ⟨q, hq⟩ : ∃ q : Int, q = if most < 4 then most else 4 := ⟨_, rfl⟩
      have q0 : 0 ≤ q := by rw [hq]; split <;> omega
      have q1 : q ≤ 4 := by rw [hq]; split <;> omega
      rw [← hq]
      clear hq
      go_wp2_with fail
      refine (below_any B p _ c2 _ (by omega) (by omega)).mono ?_
      rintro e w3 ⟨x, _, rfl, c3, g3⟩
      go_wp2
      go_ret
      exact ⟨_, trivial, rfl, c3, (g1.trans g2).trans g3⟩
  · go_wp2_with fail
    refine (odd_any B p _ c1).mono ?_
    rintro e w2 ⟨y, _, rfl, c2, g2⟩
    have hp := c2.lt
    have g0 := World.grownBy_alloc w2 (.cells (ivals [-1, most, most + 1, y]).toArray 2) (some p)
    have o0 : Own (w2.alloc (.cells (ivals [-1, most, most + 1, y]).toArray 2)) w2.heap.size (some ⟨w2.heap.size, 0, none⟩) 4 4 [-1, most, most + 1, y] := own_lit w2 [-1, most, most + 1, y] (by simp [maxLen])
    have c0 := c2.kept (World.grownBy_alloc w2 (.cells (ivals [-1, most, most + 1, y]).toArray 2) none) (fun k hk => by cases hk)
    have G0 := Lib.hid ((g1.trans g2).trans g0)
    have O0 := Lib.hid o0
    have C0 := Lib.hid c0
    clear o0 c0 g0 g1 g2
    go_wp2_with fail
    refine (below_any B p _ C0.out 4 (by omega) (by omega)).mono ?_
    rintro e w3 ⟨x, ⟨x0, x1⟩, rfl, c3, g3⟩
    have o1 := O0.out.kept g3 (fun k hk => by injection hk with hk; omega)
    have hcell := o1.cell (j := x.toNat) (by omega)
    generalize [-1, most, most + 1, y].getD x.toNat 0 = z at hcell
    have G := Lib.hid (G0.out.trans g3)
    clear o1 g3
    go_wp2
    go_ret
    exact ⟨_, trivial, rfl, c3, G.out⟩

end Go.Proofs.Ytbjdfgdcmaflkaa

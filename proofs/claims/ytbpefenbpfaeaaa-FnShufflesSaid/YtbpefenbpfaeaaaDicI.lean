/-
  The program's small functions of chapter 2: validity, the generator of a seed, and the two closures that share one seed.
-/
import Derived.Test.YtbpefenbpfaeaaaDicS
namespace Go.Proofs.Ytbpefenbpfaeaaa
open Go.RowKit

/-- Block p is a number that closures have captured. -/
def NBox (w : World) (p : Nat) (x : Int) : Prop := w.heap[p]? = some (.cells #[.int .i64 x] 2 (0, 0))
theorem NBox.below {w w' : World} {p B : Nat} {x : Int} (h : NBox w p x) (hb : Below B w w') (hp : p < B) : NBox w' p x := (hb.block p hp).trans h
theorem NBox.cell {w : World} {p : Nat} {x : Int} (h : NBox w p x) : w.cell? ⟨p, 0, none⟩ = some (.int .i64 x) := cell_of_blk h 0
theorem NBox.free {w : World} {p : Nat} {x : Int} (h : NBox w p x) : w.frozen? ⟨p, 0, none⟩ = false := free_of_blk h 0
theorem NBox.set_ {w : World} {p : Nat} {x : Int} (h : NBox w p x) (y : Int) : NBox (w.setCell ⟨p, 0, none⟩ (.int .i64 y)) p y := set_blk h 0 _
theorem NBox.far {w : World} {p q i : Nat} {x : Int} (h : NBox w p x) (u : Value) (hne : p ≠ q) : NBox (w.setCell ⟨q, i, none⟩ u) p x := by
  unfold NBox at *
  rw [Below.heap_setCell w ⟨q, i, none⟩ u p hne]
  exact h
theorem NBox.lt {w : World} {p : Nat} {x : Int} (h : NBox w p x) : p < w.heap.size := by
  unfold NBox at h
  rcases Nat.lt_or_ge p w.heap.size with hlt | hge
  · exact hlt
  · rw [Array.getElem?_eq_none hge] at h; cases h
theorem NBox.new (w : World) (x : Int) : NBox (w.alloc (.cells #[.int .i64 x] 2)) w.heap.size x := heap_alloc_new w _
theorem NBox.alloc {w : World} {p : Nat} {x : Int} (h : NBox w p x) (o : Obj) : NBox (w.alloc o) p x := h.below (new_lt w o) h.lt

theorem iDiceOk_any (s : Int) (w : World) :
    Calls Try.prog 20 #[.agg #[.int .i64 s]] w fun e w' => e = .returned (.bool (diceOk s)) ∧ Below w.heap.size w w' := by
  by_cases h0 : 0 ≤ s
  · have hd : diceOk s = decide (s < 999999937) := by
      unfold diceOk
      rw [decide_eq_true h0, Bool.true_and]
      exact decide_eq_decide.2 (by omega)
    rw [hd]
    go_enter Try.func20, Try.ntmps20
    go_wp2
    go_ret
    exact ⟨rfl, new_lt _ _⟩
  · have hd : diceOk s = false := by simp [diceOk]; omega
    rw [hd]
    go_enter Try.func20, Try.ntmps20
    go_wp2
    go_ret
    exact ⟨rfl, new_lt _ _⟩

theorem iBound_any (n : Int) (w : World) :
    Calls Try.prog 38 #[.int .i64 n] w fun e w' => e = .returned (.bool (nOk n)) ∧ w = w' := by
  by_cases h0 : 1 ≤ n
  · have hd : nOk n = decide (n ≤ 1000000000) := by
      unfold nOk
      rw [decide_eq_true h0, Bool.true_and]
    rw [hd]
    go_enter Try.func38, Try.ntmps38
    go_wp2
    go_ret
    exact ⟨rfl, rfl⟩
  · have hd : nOk n = false := by simp [nOk]; omega
    rw [hd]
    go_enter Try.func38, Try.ntmps38
    go_wp2
    go_ret
    exact ⟨rfl, rfl⟩

theorem iDiceOf_any (s : Int) (w : World) (_s0 : -9223372036854775808 ≤ s) (_s1 : s ≤ 9223372036854775807) :
    Calls Try.prog 23 #[.int .i64 s] w fun e w' => e = .returned (.agg #[.int .i64 (s % 999999937)]) ∧ Below w.heap.size w w' := by
  have a1 : -999999937 < s.tmod 999999937 := by have := Int.lt_tmod_of_pos s (show (0 : Int) < 999999937 by decide); omega
  have a2 : s.tmod 999999937 < 999999937 := Int.tmod_lt_of_pos s (by decide)
  have a3 : s % 999999937 = if s.tmod 999999937 < 0 then s.tmod 999999937 + 999999937 else s.tmod 999999937 := by
    rw [Int.tmod_eq_emod]
    split <;> split <;> omega
  have A3 := Lib.hid a3
  clear a3
  by_cases hneg : s.tmod 999999937 < 0
  · have A4 := Lib.hid (show s % 999999937 = s.tmod 999999937 + 999999937 by rw [A3.out, if_pos hneg])
    go_enter Try.func23, Try.ntmps23
    go_wp2
    refine bodyPost_ret (v := .agg #[.int .i64 (s.tmod 999999937 + 999999937)]) (by simp [results, Try.results23, go_sem]) rfl ⟨by rw [A4.out], ?_⟩
    repeat' first
      | exact Below.refl _ _
      | refine Below.setCell ?_ (by simp <;> omega) _
      | refine Below.alloc ?_ (by simp <;> omega) _
  · have A4 := Lib.hid (show s % 999999937 = s.tmod 999999937 by rw [A3.out, if_neg hneg])
    go_enter Try.func23, Try.ntmps23
    go_wp2
    refine bodyPost_ret (v := .agg #[.int .i64 (s.tmod 999999937)]) (by simp [results, Try.results23, go_sem]) rfl ⟨by rw [A4.out], ?_⟩
    repeat' first
      | exact Below.refl _ _
      | refine Below.setCell ?_ (by simp <;> omega) _
      | refine Below.alloc ?_ (by simp <;> omega) _

/-- The two closures over the number in block p. -/
def drawFn (p : Nat) : Value := .func (.func 47) #[] #[.pointer (some ⟨p, 0, none⟩)]
def afterFn (p : Nat) : Value := .func (.func 48) #[] #[.pointer (some ⟨p, 0, none⟩)]

theorem iDrawer_any (s : Int) (w : World) :
    Calls Try.prog 39 #[.agg #[.int .i64 s]] w fun e w' => e = .returned (.tuple #[drawFn (w.heap.size + 1), afterFn (w.heap.size + 1)]) ∧ NBox w' (w.heap.size + 1) s ∧ Below w.heap.size w w' := by
  have n1 : NBox ((w.alloc (.cells #[.int .i64 s] 25)).alloc (.cells #[.int .i64 s] 2)) (w.heap.size + 1) s := by
    have := NBox.new (w.alloc (.cells #[.int .i64 s] 25)) s
    simpa using this
  have b1 : Below w.heap.size w ((w.alloc (.cells #[.int .i64 s] 25)).alloc (.cells #[.int .i64 s] 2)) :=
    ((Below.refl _ w).alloc (Nat.le_refl _) _).alloc (by simp) _
  go_enter Try.func39, Try.ntmps39
  go_wp2
  go_ret2
  exact ⟨rfl, n1, b1⟩

theorem iDraw_any (s : Int) (p : Nat) (w : World) (h : NBox w p s) (hd : diceOk s = true) :
    Calls Try.prog 47 #[.pointer (some ⟨p, 0, none⟩)] w fun e w' => e = .returned (.int .i64 (rollN s)) ∧ w' = w.setCell ⟨p, 0, none⟩ (.int .i64 (rollN s)) := by
  obtain ⟨s0, s1⟩ := diceOk_iff.1 hd
  have cx := h.cell
  have fx := h.free
  clear hd
  go_enter Try.func47, Try.ntmps47
  go_wp2
  go_ret
  exact ⟨rfl, rfl⟩

theorem iAfter_any (s : Int) (p : Nat) (w : World) (h : NBox w p s) :
    Calls Try.prog 48 #[.pointer (some ⟨p, 0, none⟩)] w fun e w' => e = .returned (.agg #[.int .i64 s]) ∧ Below w.heap.size w w' := by
  have cx := (h.alloc (.cells #[.int .i64 0] 25)).cell
  go_enter Try.func48, Try.ntmps48
  go_wp2
  refine bodyPost_ret (v := .agg #[.int .i64 s]) (by simp [results, Try.results48, go_sem]) rfl ⟨rfl, ?_⟩
  repeat' first
    | exact Below.refl _ _
    | refine Below.setCell ?_ (by simp <;> omega) _
    | refine Below.alloc ?_ (by simp <;> omega) _

end Go.Proofs.Ytbpefenbpfaeaaa

/-
  The generators of chapter 2 as plain mathematics, and the model's small functions over them.
-/
import Derived.Test.YtbpefenbpfaeaaaEq
import Derived.Test.YtbpefenbpfaeaaaIn
namespace Go.Proofs.Ytbpefenbpfaeaaa
open Go.RowKit

def diceOk (s : Int) : Bool := decide (0 ≤ s) && decide (s ≤ 999999936)
def rollN (s : Int) : Int := (48271 * s + 11) % 999999937
def rolled (s : Int) : Int × Int := if diceOk s = true then (rollN s, rollN s) else (0, 0)
def nOk (n : Int) : Bool := decide (1 ≤ n) && decide (n ≤ 1000000000)
def under (s n : Int) : Int × Int := if diceOk s = true then (if nOk n = true then (rollN s, rollN s % n) else (s, 0)) else (0, 0)

theorem diceOk_iff {s : Int} : diceOk s = true ↔ 0 ≤ s ∧ s ≤ 999999936 := by simp [diceOk]
theorem nOk_iff {n : Int} : nOk n = true ↔ 1 ≤ n ∧ n ≤ 1000000000 := by simp [nOk]
theorem rollN_bd (s : Int) : 0 ≤ rollN s ∧ rollN s ≤ 999999936 := by unfold rollN; omega
theorem rollN_ok (s : Int) : diceOk (rollN s) = true := diceOk_iff.2 (rollN_bd s)

theorem new_lt (w : World) (o : Obj) : Below w.heap.size w (w.alloc o) := (Below.refl _ _).alloc (Nat.le_refl _) _

/-- Of old blocks all cells and marks read as before. -/
theorem bcell {W w1 : World} (hb : Below W.heap.size W w1) : (∀ b o, b < W.heap.size → w1.cell? ⟨b, o, none⟩ = W.cell? ⟨b, o, none⟩) ∧ (∀ b o, b < W.heap.size → w1.frozen? ⟨b, o, none⟩ = W.frozen? ⟨b, o, none⟩) :=
  ⟨fun b o h => hb.cell (p := ⟨b, o, none⟩) h, fun b o h => hb.frozen (p := ⟨b, o, none⟩) h⟩

theorem toDice_any (s : Int) (w : World) :
    Calls Try.prog 21 #[.agg #[.int .i64 s]] w fun e w' => e = .returned (.agg #[.int .i64 s]) ∧ Below w.heap.size w w' := by
  go_enter Try.func21, Try.ntmps21
  go_wp2
  refine bodyPost_ret (v := .agg #[.int .i64 s]) (by simp [results, Try.results21, go_sem]) rfl ⟨rfl, ?_⟩
  repeat' first
    | exact Below.refl _ _
    | refine Below.setCell ?_ (by simp <;> omega) _
    | refine Below.alloc ?_ (by simp <;> omega) _

theorem sDiceOk_any (s : Int) (w : World) :
    Calls Try.prog 19 #[.agg #[.int .i64 s]] w fun e w' => e = .returned (.bool (diceOk s)) ∧ Below w.heap.size w w' := by
  go_enter Try.func19, Try.ntmps19
  go_wp2_with fail
  refine (in_any _ _ _ _).mono ?_
  rintro e w' ⟨rfl, rfl⟩
  go_wp2
  go_ret
  exact ⟨rfl, new_lt _ _⟩

theorem eqDice_yes (s : Int) (w : World) :
    Calls Try.prog 24 #[.agg #[.int .i64 s], .agg #[.int .i64 s]] w fun e w' => e = .returned (.bool true) ∧ Below w.heap.size w w' := by
  go_enter Try.func24, Try.ntmps24
  go_wp2
  go_ret
  exact ⟨rfl, (new_lt _ _).trans ((new_lt _ _).mono (by simp))⟩

theorem sDiceOf_any (s : Int) (w : World) :
    Calls Try.prog 22 #[.int .i64 s] w fun e w' => e = .returned (.agg #[.int .i64 (s % 999999937)]) ∧ Below w.heap.size w w' := by
  have a1 : -999999937 < s.tmod 999999937 := by have := Int.lt_tmod_of_pos s (show (0 : Int) < 999999937 by decide); omega
  have a2 : s.tmod 999999937 < 999999937 := Int.tmod_lt_of_pos s (by decide)
  have a3 : (s.tmod 999999937 + 999999937) % 999999937 = s % 999999937 := by
    rw [Int.add_emod_right, Int.tmod_eq_emod]
    split <;> omega
  have A3 := Lib.hid a3
  clear a3
  go_enter Try.func22, Try.ntmps22
  go_wp2
  have a4 : s.tmod 999999937 % 999999937 = s % 999999937 := by
    have := A3.out
    rw [Int.add_emod_right] at this
    exact this
  refine bodyPost_ret (v := .agg #[.int .i64 (s % 999999937)]) (by simp [results, Try.results22, go_sem, a4]) rfl ⟨rfl, ?_⟩
  repeat' first
    | exact Below.refl _ _
    | refine Below.setCell ?_ (by simp <;> omega) _
    | refine Below.alloc ?_ (by simp <;> omega) _

set_option maxHeartbeats 800000 in
theorem sRolled_any (s : Int) (w : World) :
    Calls Try.prog 25 #[.agg #[.int .i64 s]] w fun e w' => e = .returned (.tuple #[.agg #[.int .i64 (rolled s).1], .int .i64 (rolled s).2]) ∧ Below w.heap.size w w' := by
  cases hd : diceOk s
  · have HR := Lib.hid (show rolled s = (0, 0) by simp [rolled, hd])
    go_enter Try.func25, Try.ntmps25
    go_wp2_with fail
    refine (sDiceOk_any s _).mono ?_
    rintro e w1 ⟨rfl, b1⟩
    rw [hd]
    obtain ⟨hc, hf⟩ := bcell b1
    have B1 := Lib.hid b1
    have z1 : w.heap.size + 1 < w1.heap.size := by have := b1.size; simp at this; omega
    clear b1
    go_wp2
    refine bodyPost_ret (v := .tuple #[.agg #[.int .i64 0], .int .i64 0]) (by simp [results, Try.results25, go_sem, hc]) rfl ⟨by rw [HR.out], ?_⟩
    refine Below.setCell ((((Below.refl _ w).alloc (Nat.le_refl _) _).alloc (by simp) _).trans (B1.out.mono (by simp; omega))) (by simp) _
  · have HR := Lib.hid (show rolled s = (rollN s, rollN s) by simp [rolled, hd])
    obtain ⟨s0, s1⟩ := diceOk_iff.1 hd
    have HD := Lib.hid hd
    clear hd
    go_enter Try.func25, Try.ntmps25
    go_wp2_with fail
    refine (sDiceOk_any s _).mono ?_
    rintro e w1 ⟨rfl, b1⟩
    rw [HD.out]
    obtain ⟨hc, hf⟩ := bcell b1
    have B1 := Lib.hid b1
    have z1 : w.heap.size + 1 < w1.heap.size := by have := b1.size; simp at this; omega
    clear b1
    go_wp2
    refine bodyPost_ret (v := .tuple #[.agg #[.int .i64 (rollN s)], .int .i64 (rollN s)]) (by simp [results, Try.results25, go_sem, rollN, hc]) rfl ⟨by rw [HR.out], ?_⟩
    refine Below.setCell ((((Below.refl _ w).alloc (Nat.le_refl _) _).alloc (by simp) _).trans (B1.out.mono (by simp; omega))) (by simp) _

end Go.Proofs.Ytbpefenbpfaeaaa

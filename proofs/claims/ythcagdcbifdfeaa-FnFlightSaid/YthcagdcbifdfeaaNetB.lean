/-
  Chapter 5: nodes, links and messages: the small functions of the model and of the program (by program, wip/gen/gennetb.py).
-/
import Derived.Test.YthcagdcbifdfeaaNet
import Derived.Test.YthcagdcbifdfeaaSame
import Derived.Test.YthcagdcbifdfeaaNode
import Derived.RegionTactic
import Derived.BigQuiet
namespace Go.Proofs.Ythcagdcbifdfeaa
set_option maxRecDepth 100000
open Go.RowKit

def twoB (x y : Int) : Bool := nodeB x && nodeB y && x != y
def linkLess (x y : LinkM) : Bool := decide (x.a < y.a) || (x.a == y.a && decide (x.b < y.b))
def linkOf (x y : Int) : LinkM := if x < y then ⟨x, y⟩ else ⟨y, x⟩
def thereB (n : Nat) (i : Int) : Bool := decide (0 ≤ i) && decide (i < (n : Int))
def msgOk (m : MsgM) : Bool := twoB m.frm m.dest && (decide (0 < m.row.length) && rowOk m.row)
def sameMsg (x y : MsgM) : Bool := x.frm == y.frm && (x.dest == y.dest && sameI x.row y.row)

set_option maxHeartbeats 1600000 in
theorem iTwo_any (x y : Int) (w : World) :
    Calls Try.prog 65 #[.int .i64 x, .int .i64 y] w fun e w' => e = .returned (.bool (twoB x y)) ∧ w = w' := by
  go_enter Try.func65, Try.ntmps65
  go_wp2_with (first | (go_at_call 74; refine (iNode_any _ _).mono ?_; rintro e w' ⟨rfl, rfl⟩))
  all_goals
    go_ret
    refine ⟨ret_bool ?_, rfl⟩
    first | rfl | (simp_all [twoB]; done) | (rw [Bool.eq_iff_iff]; simp_all [twoB] <;> omega) | (simp_all [twoB] <;> omega)

set_option maxHeartbeats 1600000 in
theorem iLess_any (x0 x1 y0 y1 : Int) (w : World) :
    Calls Try.prog 95 #[.agg #[.int .i64 x0, .int .i64 x1], .agg #[.int .i64 y0, .int .i64 y1]] w fun e w' => e = .returned (.bool (linkLess ⟨x0, x1⟩ ⟨y0, y1⟩)) ∧ Below w.heap.size w w' := by
  go_enter Try.func95, Try.ntmps95
  go_wp2
  all_goals
    go_ret
    refine ⟨ret_bool ?_, (by repeat (first | exact Below.refl _ _ | refine Below.alloc ?_ (by first | exact Nat.le_refl _ | (simp; done) | (simp; omega)) _))⟩
    first | rfl | (simp_all [linkLess]; done) | (rw [Bool.eq_iff_iff]; simp_all [linkLess] <;> omega) | (simp_all [linkLess] <;> omega)

set_option maxHeartbeats 1600000 in
theorem iLink_any (x y : Int) (w : World) :
    Calls Try.prog 63 #[.int .i64 x, .int .i64 y] w fun e w' => e = .returned (.agg #[.int .i64 (linkOf x y).a, .int .i64 (linkOf x y).b]) ∧ Below w.heap.size w w' := by
  rcases Int.lt_trichotomy x y with h | h | h
  · have HL := Lib.hid (show linkOf x y = ⟨x, y⟩ by unfold linkOf; rw [if_pos h])
    rw [HL.out]
    have B0 := Lib.hid ((Below.refl w.heap.size w).alloc (Nat.le_refl _) (.cells #[.int .i64 x, .int .i64 y] 76))
    go_enter Try.func63, Try.ntmps63
    go_wp2
    exact bodyPost_ret (v := .agg #[.int .i64 x, .int .i64 y]) (by simp [results, Try.results63, go_sem]) rfl ⟨rfl, B0.out⟩
  · subst h
    have HL := Lib.hid (show linkOf x x = ⟨x, x⟩ by unfold linkOf; rw [if_neg (by omega)])
    rw [HL.out]
    have B0 := Lib.hid ((Below.refl w.heap.size w).alloc (Nat.le_refl _) (.cells #[.int .i64 x, .int .i64 x] 76))
    go_enter Try.func63, Try.ntmps63
    go_wp2
    exact bodyPost_ret (v := .agg #[.int .i64 x, .int .i64 x]) (by simp [results, Try.results63, go_sem]) rfl ⟨rfl, B0.out⟩
  · have HL := Lib.hid (show linkOf x y = ⟨y, x⟩ by unfold linkOf; rw [if_neg (by omega)])
    rw [HL.out]
    have B0 := Lib.hid ((Below.refl w.heap.size w).alloc (Nat.le_refl _) (.cells #[.int .i64 y, .int .i64 x] 76))
    go_enter Try.func63, Try.ntmps63
    go_wp2
    exact bodyPost_ret (v := .agg #[.int .i64 y, .int .i64 x]) (by simp [results, Try.results63, go_sem]) rfl ⟨rfl, B0.out⟩

set_option maxHeartbeats 1600000 in
theorem iHas_any (A A' : Option Addr) (n c n' c' : Nat) (i : Int) (_hn : n ≤ 1048577) (w : World) :
    Calls Try.prog 66 #[.agg #[.slice A n c, .slice A' n' c'], .int .i64 i] w fun e w' => e = .returned (.bool (thereB n i)) ∧ Below w.heap.size w w' := by
  go_enter Try.func66, Try.ntmps66
  go_wp2
  all_goals
    go_ret
    refine ⟨ret_bool ?_, (by repeat (first | exact Below.refl _ _ | refine Below.alloc ?_ (by first | exact Nat.le_refl _ | (simp; done) | (simp; omega)) _))⟩
    first | rfl | (simp_all [thereB]; done) | (rw [Bool.eq_iff_iff]; simp_all [thereB] <;> omega) | (simp_all [thereB] <;> omega)

set_option maxHeartbeats 1600000 in
theorem iMsgOk_any (x0 x1 : Int) (A : Option Addr) (n c B : Nat) (xs : List Int) (w : World) (h : IRow w B A n xs) (hB : B ≤ w.heap.size) (hn : n ≤ 1048577) :
    Calls Try.prog 71 #[.agg #[.int .i64 x0, .int .i64 x1, .slice A n c]] w fun e w' => e = .returned (.bool (msgOk ⟨x0, x1, xs⟩)) ∧ Below w.heap.size w w' := by
  have b0 : Below w.heap.size w (w.alloc (.cells #[.int .i64 x0, .int .i64 x1, .slice A n c] 37)) := (Below.refl _ w).alloc (Nat.le_refl _) _
  have h0 := h.below (b0.mono hB)
  have hl := h.1
  clear h b0
  go_enter Try.func71, Try.ntmps71
  go_wp2_with (first | (go_at_call 65; refine (iTwo_any _ _ _).mono ?_; rintro e w' ⟨rfl, rfl⟩) | (go_at_call 97; refine (iRowOk_any A n c B xs _ h0 hn).mono ?_; rintro e w' ⟨rfl, rfl⟩))
  all_goals
    go_ret
    refine ⟨ret_bool ?_, (by repeat (first | exact Below.refl _ _ | refine Below.alloc ?_ (by first | exact Nat.le_refl _ | (simp; done) | (simp; omega)) _))⟩
    first | rfl | (simp_all [msgOk, twoB]; done) | (rw [Bool.eq_iff_iff]; simp_all [msgOk, twoB] <;> omega) | (simp_all [msgOk, twoB] <;> omega)

end Go.Proofs.Ythcagdcbifdfeaa

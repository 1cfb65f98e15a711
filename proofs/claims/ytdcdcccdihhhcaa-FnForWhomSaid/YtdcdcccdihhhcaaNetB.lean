/-
  Chapter 5: nodes, links and messages: the small functions of the model and of the program (by program, wip/gen/gennetb.py).
-/
import Derived.Test.YtdcdcccdihhhcaaNet
import Derived.Test.YtdcdcccdihhhcaaSame
import Derived.RegionTactic
import Derived.BigQuiet
namespace Go.Proofs.Ytdcdcccdihhhcaa
set_option maxRecDepth 100000
open Go.RowKit

def nodeB (x : Int) : Bool := decide (0 ≤ x) && decide (x ≤ 5)
def twoB (x y : Int) : Bool := nodeB x && nodeB y && x != y
def linkLess (x y : LinkM) : Bool := decide (x.a < y.a) || (x.a == y.a && decide (x.b < y.b))
def linkOf (x y : Int) : LinkM := if x < y then ⟨x, y⟩ else ⟨y, x⟩
def thereB (n : Nat) (i : Int) : Bool := decide (0 ≤ i) && decide (i < (n : Int))
def msgOk (m : MsgM) : Bool := twoB m.frm m.dest && (decide (0 < m.row.length) && rowOk m.row)
def sameMsg (x y : MsgM) : Bool := x.frm == y.frm && (x.dest == y.dest && sameI x.row y.row)
theorem nodeB_iff (x : Int) : nodeB x = true ↔ 0 ≤ x ∧ x ≤ 5 := by simp [nodeB]

set_option maxHeartbeats 1600000 in
theorem sNode_any (x : Int) (w : World) :
    Calls Try.prog 74 #[.int .i64 x] w fun e w' => e = .returned (.bool (nodeB x)) ∧ w = w' := by
  go_enter Try.func74, Try.ntmps74
  go_wp2_with (first | (go_at_call 102; refine (in_any _ _ _ _).mono ?_; rintro e w' ⟨rfl, rfl⟩))
  all_goals
    go_ret
    refine ⟨ret_bool ?_, rfl⟩
    rfl

set_option maxHeartbeats 1600000 in
theorem iNode_any (x : Int) (w : World) :
    Calls Try.prog 98 #[.int .i64 x] w fun e w' => e = .returned (.bool (nodeB x)) ∧ w = w' := by
  go_enter Try.func98, Try.ntmps98
  go_wp2
  all_goals
    go_ret
    refine ⟨ret_bool ?_, rfl⟩
    first | rfl | (simp_all [nodeB]; done) | (rw [Bool.eq_iff_iff]; simp_all [nodeB] <;> omega) | (simp_all [nodeB] <;> omega)

set_option maxHeartbeats 1600000 in
theorem sTwo_any (x y : Int) (w : World) :
    Calls Try.prog 85 #[.int .i64 x, .int .i64 y] w fun e w' => e = .returned (.bool (twoB x y)) ∧ w = w' := by
  go_enter Try.func85, Try.ntmps85
  go_wp2_with (first | (go_at_call 74; refine (sNode_any _ _).mono ?_; rintro e w' ⟨rfl, rfl⟩))
  all_goals
    go_ret
    refine ⟨ret_bool ?_, rfl⟩
    first | rfl | (simp_all [twoB]; done) | (rw [Bool.eq_iff_iff]; simp_all [twoB] <;> omega) | (simp_all [twoB] <;> omega)

set_option maxHeartbeats 1600000 in
theorem iTwo_any (x y : Int) (w : World) :
    Calls Try.prog 63 #[.int .i64 x, .int .i64 y] w fun e w' => e = .returned (.bool (twoB x y)) ∧ w = w' := by
  go_enter Try.func63, Try.ntmps63
  go_wp2_with (first | (go_at_call 98; refine (iNode_any _ _).mono ?_; rintro e w' ⟨rfl, rfl⟩))
  all_goals
    go_ret
    refine ⟨ret_bool ?_, rfl⟩
    first | rfl | (simp_all [twoB]; done) | (rw [Bool.eq_iff_iff]; simp_all [twoB] <;> omega) | (simp_all [twoB] <;> omega)

set_option maxHeartbeats 1600000 in
theorem sLess_any (x0 x1 y0 y1 : Int) (w : World) :
    Calls Try.prog 80 #[.agg #[.int .i64 x0, .int .i64 x1], .agg #[.int .i64 y0, .int .i64 y1]] w fun e w' => e = .returned (.bool (linkLess ⟨x0, x1⟩ ⟨y0, y1⟩)) ∧ Below w.heap.size w w' := by
  go_enter Try.func80, Try.ntmps80
  go_wp2
  all_goals
    go_ret
    refine ⟨ret_bool ?_, (by repeat (first | exact Below.refl _ _ | refine Below.alloc ?_ (by first | exact Nat.le_refl _ | (simp; done) | (simp; omega)) _))⟩
    first | rfl | (simp_all [linkLess]; done) | (rw [Bool.eq_iff_iff]; simp_all [linkLess] <;> omega) | (simp_all [linkLess] <;> omega)

set_option maxHeartbeats 1600000 in
theorem iLess_any (x0 x1 y0 y1 : Int) (w : World) :
    Calls Try.prog 97 #[.agg #[.int .i64 x0, .int .i64 x1], .agg #[.int .i64 y0, .int .i64 y1]] w fun e w' => e = .returned (.bool (linkLess ⟨x0, x1⟩ ⟨y0, y1⟩)) ∧ Below w.heap.size w w' := by
  go_enter Try.func97, Try.ntmps97
  go_wp2
  all_goals
    go_ret
    refine ⟨ret_bool ?_, (by repeat (first | exact Below.refl _ _ | refine Below.alloc ?_ (by first | exact Nat.le_refl _ | (simp; done) | (simp; omega)) _))⟩
    first | rfl | (simp_all [linkLess]; done) | (rw [Bool.eq_iff_iff]; simp_all [linkLess] <;> omega) | (simp_all [linkLess] <;> omega)

set_option maxHeartbeats 1600000 in
theorem sLink_any (x y : Int) (w : World) :
    Calls Try.prog 95 #[.int .i64 x, .int .i64 y] w fun e w' => e = .returned (.agg #[.int .i64 (linkOf x y).a, .int .i64 (linkOf x y).b]) ∧ Below w.heap.size w w' := by
  rcases Int.lt_trichotomy x y with h | h | h
  · have HL := Lib.hid (show linkOf x y = ⟨x, y⟩ by unfold linkOf; rw [if_pos h])
    rw [HL.out]
    have B0 := Lib.hid ((Below.refl w.heap.size w).alloc (Nat.le_refl _) (.cells #[.int .i64 x, .int .i64 y] 75))
    go_enter Try.func95, Try.ntmps95
    go_wp2
    exact bodyPost_ret (v := .agg #[.int .i64 x, .int .i64 y]) (by simp [results, Try.results95, go_sem]) rfl ⟨rfl, B0.out⟩
  · subst h
    have HL := Lib.hid (show linkOf x x = ⟨x, x⟩ by unfold linkOf; rw [if_neg (by omega)])
    rw [HL.out]
    have B0 := Lib.hid ((Below.refl w.heap.size w).alloc (Nat.le_refl _) (.cells #[.int .i64 x, .int .i64 x] 75))
    go_enter Try.func95, Try.ntmps95
    go_wp2
    exact bodyPost_ret (v := .agg #[.int .i64 x, .int .i64 x]) (by simp [results, Try.results95, go_sem]) rfl ⟨rfl, B0.out⟩
  · have HL := Lib.hid (show linkOf x y = ⟨y, x⟩ by unfold linkOf; rw [if_neg (by omega)])
    rw [HL.out]
    have B0 := Lib.hid ((Below.refl w.heap.size w).alloc (Nat.le_refl _) (.cells #[.int .i64 y, .int .i64 x] 75))
    go_enter Try.func95, Try.ntmps95
    go_wp2
    exact bodyPost_ret (v := .agg #[.int .i64 y, .int .i64 x]) (by simp [results, Try.results95, go_sem]) rfl ⟨rfl, B0.out⟩

set_option maxHeartbeats 1600000 in
theorem iLink_any (x y : Int) (w : World) :
    Calls Try.prog 61 #[.int .i64 x, .int .i64 y] w fun e w' => e = .returned (.agg #[.int .i64 (linkOf x y).a, .int .i64 (linkOf x y).b]) ∧ Below w.heap.size w w' := by
  rcases Int.lt_trichotomy x y with h | h | h
  · have HL := Lib.hid (show linkOf x y = ⟨x, y⟩ by unfold linkOf; rw [if_pos h])
    rw [HL.out]
    have B0 := Lib.hid ((Below.refl w.heap.size w).alloc (Nat.le_refl _) (.cells #[.int .i64 x, .int .i64 y] 75))
    go_enter Try.func61, Try.ntmps61
    go_wp2
    exact bodyPost_ret (v := .agg #[.int .i64 x, .int .i64 y]) (by simp [results, Try.results61, go_sem]) rfl ⟨rfl, B0.out⟩
  · subst h
    have HL := Lib.hid (show linkOf x x = ⟨x, x⟩ by unfold linkOf; rw [if_neg (by omega)])
    rw [HL.out]
    have B0 := Lib.hid ((Below.refl w.heap.size w).alloc (Nat.le_refl _) (.cells #[.int .i64 x, .int .i64 x] 75))
    go_enter Try.func61, Try.ntmps61
    go_wp2
    exact bodyPost_ret (v := .agg #[.int .i64 x, .int .i64 x]) (by simp [results, Try.results61, go_sem]) rfl ⟨rfl, B0.out⟩
  · have HL := Lib.hid (show linkOf x y = ⟨y, x⟩ by unfold linkOf; rw [if_neg (by omega)])
    rw [HL.out]
    have B0 := Lib.hid ((Below.refl w.heap.size w).alloc (Nat.le_refl _) (.cells #[.int .i64 y, .int .i64 x] 75))
    go_enter Try.func61, Try.ntmps61
    go_wp2
    exact bodyPost_ret (v := .agg #[.int .i64 y, .int .i64 x]) (by simp [results, Try.results61, go_sem]) rfl ⟨rfl, B0.out⟩

set_option maxHeartbeats 1600000 in
theorem sThere_any (A A' : Option Addr) (n c n' c' : Nat) (i : Int) (_hn : n ≤ 1048577) (w : World) :
    Calls Try.prog 93 #[.agg #[.slice A n c, .slice A' n' c'], .int .i64 i] w fun e w' => e = .returned (.bool (thereB n i)) ∧ Below w.heap.size w w' := by
  go_enter Try.func93, Try.ntmps93
  go_wp2_with (first | (go_at_call 102; refine (in_any _ _ _ _).mono ?_; rintro e w' ⟨rfl, rfl⟩))
  all_goals
    go_ret
    refine ⟨ret_bool ?_, (by repeat (first | exact Below.refl _ _ | refine Below.alloc ?_ (by first | exact Nat.le_refl _ | (simp; done) | (simp; omega)) _))⟩
    first | rfl | (simp_all [thereB]; done) | (rw [Bool.eq_iff_iff]; simp_all [thereB] <;> omega) | (simp_all [thereB] <;> omega)

set_option maxHeartbeats 1600000 in
theorem iHas_any (A A' : Option Addr) (n c n' c' : Nat) (i : Int) (_hn : n ≤ 1048577) (w : World) :
    Calls Try.prog 67 #[.agg #[.slice A n c, .slice A' n' c'], .int .i64 i] w fun e w' => e = .returned (.bool (thereB n i)) ∧ Below w.heap.size w w' := by
  go_enter Try.func67, Try.ntmps67
  go_wp2
  all_goals
    go_ret
    refine ⟨ret_bool ?_, (by repeat (first | exact Below.refl _ _ | refine Below.alloc ?_ (by first | exact Nat.le_refl _ | (simp; done) | (simp; omega)) _))⟩
    first | rfl | (simp_all [thereB]; done) | (rw [Bool.eq_iff_iff]; simp_all [thereB] <;> omega) | (simp_all [thereB] <;> omega)

set_option maxHeartbeats 1600000 in
theorem sMsgOk_any (x0 x1 : Int) (A : Option Addr) (n c B : Nat) (xs : List Int) (w : World) (h : IRow w B A n xs) (hB : B ≤ w.heap.size) (hn : n ≤ 1048577) :
    Calls Try.prog 36 #[.agg #[.int .i64 x0, .int .i64 x1, .slice A n c]] w fun e w' => e = .returned (.bool (msgOk ⟨x0, x1, xs⟩)) ∧ Below w.heap.size w w' := by
  have b0 : Below w.heap.size w (w.alloc (.cells #[.int .i64 x0, .int .i64 x1, .slice A n c] 40)) := (Below.refl _ w).alloc (Nat.le_refl _) _
  have h0 := h.below (b0.mono hB)
  have hl := h.1
  clear h b0
  go_enter Try.func36, Try.ntmps36
  go_wp2_with (first | (go_at_call 74; refine (sNode_any _ _).mono ?_; rintro e w' ⟨rfl, rfl⟩) | (go_at_call 75; refine (sRowOk_any A n c B xs _ h0 hn).mono ?_; rintro e w' ⟨rfl, rfl⟩))
  all_goals
    go_ret
    refine ⟨ret_bool ?_, (by repeat (first | exact Below.refl _ _ | refine Below.alloc ?_ (by first | exact Nat.le_refl _ | (simp; done) | (simp; omega)) _))⟩
    first | rfl | (simp_all [msgOk, twoB]; done) | (rw [Bool.eq_iff_iff]; simp_all [msgOk, twoB] <;> omega) | (simp_all [msgOk, twoB] <;> omega)

set_option maxHeartbeats 1600000 in
theorem iMsgOk_any (x0 x1 : Int) (A : Option Addr) (n c B : Nat) (xs : List Int) (w : World) (h : IRow w B A n xs) (hB : B ≤ w.heap.size) (hn : n ≤ 1048577) :
    Calls Try.prog 38 #[.agg #[.int .i64 x0, .int .i64 x1, .slice A n c]] w fun e w' => e = .returned (.bool (msgOk ⟨x0, x1, xs⟩)) ∧ Below w.heap.size w w' := by
  have b0 : Below w.heap.size w (w.alloc (.cells #[.int .i64 x0, .int .i64 x1, .slice A n c] 40)) := (Below.refl _ w).alloc (Nat.le_refl _) _
  have h0 := h.below (b0.mono hB)
  have hl := h.1
  clear h b0
  go_enter Try.func38, Try.ntmps38
  go_wp2_with (first | (go_at_call 63; refine (iTwo_any _ _ _).mono ?_; rintro e w' ⟨rfl, rfl⟩) | (go_at_call 77; refine (iRowOk_any A n c B xs _ h0 hn).mono ?_; rintro e w' ⟨rfl, rfl⟩))
  all_goals
    go_ret
    refine ⟨ret_bool ?_, (by repeat (first | exact Below.refl _ _ | refine Below.alloc ?_ (by first | exact Nat.le_refl _ | (simp; done) | (simp; omega)) _))⟩
    first | rfl | (simp_all [msgOk, twoB]; done) | (rw [Bool.eq_iff_iff]; simp_all [msgOk, twoB] <;> omega) | (simp_all [msgOk, twoB] <;> omega)

set_option maxHeartbeats 1600000 in
theorem sSameMsg_any (x0 x1 y0 y1 : Int) (A A' : Option Addr) (n c n' c' B B' : Nat) (xs ys : List Int) (w : World) (h : IRow w B A n xs) (h' : IRow w B' A' n' ys) (hB : B ≤ w.heap.size) (hB' : B' ≤ w.heap.size) (hn : n ≤ 1048577) (hn' : n' ≤ 1048577) :
    Calls Try.prog 107 #[.agg #[.int .i64 x0, .int .i64 x1, .slice A n c], .agg #[.int .i64 y0, .int .i64 y1, .slice A' n' c']] w fun e w' => e = .returned (.bool (sameMsg ⟨x0, x1, xs⟩ ⟨y0, y1, ys⟩)) ∧ Below w.heap.size w w' := by
  have b0 : Below w.heap.size w ((w.alloc (.cells #[.int .i64 x0, .int .i64 x1, .slice A n c] 40)).alloc (.cells #[.int .i64 y0, .int .i64 y1, .slice A' n' c'] 40)) := ((Below.refl _ w).alloc (Nat.le_refl _) _).alloc (by simp) _
  have h0 := h.below (b0.mono hB)
  have h1 := h'.below (b0.mono hB')
  have B0 := Lib.hid b0
  clear h h' b0
  by_cases e0 : x0 = y0
  case neg =>
    go_enter Try.func107, Try.ntmps107
    go_wp2
    go_ret
    exact ⟨ret_bool (by simp [sameMsg, e0]), B0.out⟩
  subst e0
  by_cases e1 : x1 = y1
  case neg =>
    go_enter Try.func107, Try.ntmps107
    go_wp2
    go_ret
    exact ⟨ret_bool (by simp [sameMsg, e1]), B0.out⟩
  subst e1
  go_enter Try.func107, Try.ntmps107
  go_wp2_with fail
  refine (sSame_any A A' n n' c c' B B' xs ys _ h0 h1 hn hn').mono ?_
  rintro e w1 ⟨rfl, d1⟩
  have B1 := Lib.hid (B0.out.trans (d1.below _))
  clear h0 h1 d1
  go_wp2
  go_ret
  exact ⟨ret_bool (by simp [sameMsg]), B1.out⟩

set_option maxHeartbeats 1600000 in
theorem iSameMsg_any (x0 x1 y0 y1 : Int) (A A' : Option Addr) (n c n' c' B B' : Nat) (xs ys : List Int) (w : World) (h : IRow w B A n xs) (h' : IRow w B' A' n' ys) (hB : B ≤ w.heap.size) (hB' : B' ≤ w.heap.size) (hn : n ≤ 1048577) (hn' : n' ≤ 1048577) :
    Calls Try.prog 72 #[.agg #[.int .i64 x0, .int .i64 x1, .slice A n c], .agg #[.int .i64 y0, .int .i64 y1, .slice A' n' c']] w fun e w' => e = .returned (.bool (sameMsg ⟨x0, x1, xs⟩ ⟨y0, y1, ys⟩)) ∧ Below w.heap.size w w' := by
  have b0 : Below w.heap.size w ((w.alloc (.cells #[.int .i64 x0, .int .i64 x1, .slice A n c] 40)).alloc (.cells #[.int .i64 y0, .int .i64 y1, .slice A' n' c'] 40)) := ((Below.refl _ w).alloc (Nat.le_refl _) _).alloc (by simp) _
  have h0 := h.below (b0.mono hB)
  have h1 := h'.below (b0.mono hB')
  have B0 := Lib.hid b0
  clear h h' b0
  by_cases e0 : x0 = y0
  case neg =>
    go_enter Try.func72, Try.ntmps72
    go_wp2
    go_ret
    exact ⟨ret_bool (by simp [sameMsg, e0]), B0.out⟩
  subst e0
  by_cases e1 : x1 = y1
  case neg =>
    go_enter Try.func72, Try.ntmps72
    go_wp2
    go_ret
    exact ⟨ret_bool (by simp [sameMsg, e1]), B0.out⟩
  subst e1
  go_enter Try.func72, Try.ntmps72
  go_wp2_with fail
  refine (iSame_any A A' n n' c c' B B' xs ys _ h0 h1 hn hn').mono ?_
  rintro e w1 ⟨rfl, rfl⟩
  have B1 := Lib.hid B0.out
  clear h0 h1
  go_wp2
  go_ret
  exact ⟨ret_bool (by simp [sameMsg]), B1.out⟩

end Go.Proofs.Ytdcdcccdihhhcaa

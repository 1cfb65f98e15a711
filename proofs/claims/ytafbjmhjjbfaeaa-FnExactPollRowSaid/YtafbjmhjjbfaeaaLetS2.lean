/-
  Chapter 11: rows of messages, of the model (by program, wip/gen/genlets2.py).
-/
import Derived.Test.YtafbjmhjjbfaeaaLetS1
import Derived.Test.YtafbjmhjjbfaeaaEntL
import Derived.Test.YtafbjmhjjbfaeaaMove
import Derived.RegionTactic
import Derived.BigQuiet
import Derived.Laws.EntriesVeiled
namespace Go.Proofs.Ytafbjmhjjbfaeaa
set_option maxRecDepth 100000
open Go.RowKit

def oneRow (k x lo hi : Int) : List Int := if inB x lo hi = true then [k, x] else []
set_option maxHeartbeats 3200000 in
theorem sOne_any (k x lo hi : Int) (w : World) :
    Calls Try.prog 34 #[.int .i64 k, .int .i64 x, .int .i64 lo, .int .i64 hi] w fun e w' => ∃ (A : Option Addr) (n c : Nat), e = .returned (.slice A n c) ∧ Has w' w.heap.size (rowCells (oneRow k x lo hi)) [.slice A n c] ∧ Below w.heap.size w w' := by
  by_cases h : lo ≤ x ∧ x ≤ hi
  · have HQ := Lib.hid h
    have HV := Lib.hid (show oneRow k x lo hi = [k, x] by unfold oneRow; rw [if_pos ((inB_iff _ _ _).2 h)])
    have H := Lib.hid (has_lit w [k, x] (by simp))
    have C := Lib.hid ((Below.refl w.heap.size w).alloc (Nat.le_refl _) (.cells #[.int .i64 k, .int .i64 x] 2))
    clear h
    go_enter Try.func34, Try.ntmps34
    go_wp2_with (first | (go_at_call 39; refine (in_yes x lo hi _ HQ.out).mono ?_; rintro e w' ⟨rfl, rfl⟩))
    go_ret
    exact ⟨_, _, _, rfl, by rw [HV.out]; exact H.out, C.out⟩
  · have HQ := Lib.hid h
    have HV := Lib.hid (show oneRow k x lo hi = [] by unfold oneRow; rw [if_neg (fun h9 => h ((inB_iff _ _ _).1 h9))])
    have H := Lib.hid (has_lit w [] (by simp))
    have C := Lib.hid ((Below.refl w.heap.size w).alloc (Nat.le_refl _) (.cells #[] 2))
    clear h
    go_enter Try.func34, Try.ntmps34
    go_wp2_with (first | (go_at_call 39; refine (in_no x lo hi _ HQ.out).mono ?_; rintro e w' ⟨rfl, rfl⟩))
    go_ret
    exact ⟨_, _, _, rfl, by rw [HV.out]; exact H.out, C.out⟩
theorem schedB_in (x : Int) : schedB x = inB x 2 3 := by rw [Bool.eq_iff_iff, schedB_iff, inB_iff]
theorem pollRow_one (x : Int) : pollRowM x = oneRow 8 x 2 3 := by unfold pollRowM oneRow; rw [schedB_in]

theorem sPollRow_any (x : Int) (w : World) :
    Calls Try.prog 9 #[.int .i64 x] w fun e w' => ∃ (A : Option Addr) (n c : Nat), e = .returned (.slice A n c) ∧ Has w' w.heap.size (rowCells (pollRowM x)) [.slice A n c] ∧ Below w.heap.size w w' := by
  go_enter Try.func9, Try.ntmps9
  go_wp2_with (first | (go_at_call 34; refine (sOne_any 8 x 2 3 w).mono ?_; rintro e w' ⟨A, n, c, rfl, o, b⟩))
  go_ret
  exact ⟨_, _, _, rfl, by rw [pollRow_one]; exact o, b⟩

end Go.Proofs.Ytafbjmhjjbfaeaa

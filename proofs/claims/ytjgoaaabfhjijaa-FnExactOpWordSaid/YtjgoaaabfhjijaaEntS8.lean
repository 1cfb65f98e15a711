/-
  Chapter 7: the word of a kind, of the model (by program, wip/gen/genent8.py).
-/
import Derived.Test.YtjgoaaabfhjijaaEntS1
import Derived.RegionTactic
import Derived.BigQuiet
namespace Go.Proofs.Ytjgoaaabfhjijaa
set_option maxRecDepth 100000
open Go.RowKit

def wordM (x : Int) : ByteArray := if x = 1 then ⟨#[112, 117, 116]⟩ else if x = 2 then ⟨#[99, 117, 116]⟩ else if x = 3 then ⟨#[106, 111, 98]⟩ else if x = 4 then ⟨#[102, 105, 114, 101]⟩ else if x = 5 then ⟨#[108, 101, 97, 115, 101]⟩ else ⟨#[]⟩

set_option maxHeartbeats 3200000 in
theorem sWord_any (x : Int) (w : World) : Calls Try.prog 25 #[.int .i64 x] w fun e w' => e = .returned (.string (wordM x)) ∧ Below w.heap.size w w' := by
  by_cases h1 : x = 1
  · subst h1
    have H := Lib.hid (show (1 : Int) ≤ 1 ∧ (1 : Int) ≤ 5 by decide)
    go_enter Try.func25, Try.ntmps25
    go_wp2_with (first | (go_at_call 50; refine (in_yes 1 1 5 _ H.out).mono ?_; rintro e w' ⟨rfl, rfl⟩))
    go_ret
    exact ⟨rfl, (Below.refl _ _).alloc (Nat.le_refl _) _⟩
  by_cases h2 : x = 2
  · subst h2
    have H := Lib.hid (show (1 : Int) ≤ 2 ∧ (2 : Int) ≤ 5 by decide)
    go_enter Try.func25, Try.ntmps25
    go_wp2_with (first | (go_at_call 50; refine (in_yes 2 1 5 _ H.out).mono ?_; rintro e w' ⟨rfl, rfl⟩))
    go_ret
    exact ⟨rfl, (Below.refl _ _).alloc (Nat.le_refl _) _⟩
  by_cases h3 : x = 3
  · subst h3
    have H := Lib.hid (show (1 : Int) ≤ 3 ∧ (3 : Int) ≤ 5 by decide)
    go_enter Try.func25, Try.ntmps25
    go_wp2_with (first | (go_at_call 50; refine (in_yes 3 1 5 _ H.out).mono ?_; rintro e w' ⟨rfl, rfl⟩))
    go_ret
    exact ⟨rfl, (Below.refl _ _).alloc (Nat.le_refl _) _⟩
  by_cases h4 : x = 4
  · subst h4
    have H := Lib.hid (show (1 : Int) ≤ 4 ∧ (4 : Int) ≤ 5 by decide)
    go_enter Try.func25, Try.ntmps25
    go_wp2_with (first | (go_at_call 50; refine (in_yes 4 1 5 _ H.out).mono ?_; rintro e w' ⟨rfl, rfl⟩))
    go_ret
    exact ⟨rfl, (Below.refl _ _).alloc (Nat.le_refl _) _⟩
  by_cases h5 : x = 5
  · subst h5
    have H := Lib.hid (show (1 : Int) ≤ 5 ∧ (5 : Int) ≤ 5 by decide)
    go_enter Try.func25, Try.ntmps25
    go_wp2_with (first | (go_at_call 50; refine (in_yes 5 1 5 _ H.out).mono ?_; rintro e w' ⟨rfl, rfl⟩))
    go_ret
    exact ⟨rfl, (Below.refl _ _).alloc (Nat.le_refl _) _⟩
  have HV := Lib.hid (show wordM x = ⟨#[]⟩ by unfold wordM; rw [if_neg h1, if_neg h2, if_neg h3, if_neg h4, if_neg h5])
  have H := Lib.hid (show ¬ (1 ≤ x ∧ x ≤ 5) by omega)
  clear h1 h2 h3 h4 h5
  go_enter Try.func25, Try.ntmps25
  go_wp2_with (first | (go_at_call 50; refine (in_no x 1 5 _ H.out).mono ?_; rintro e w' ⟨rfl, rfl⟩))
  go_ret
  exact ⟨by rw [HV.out]; rfl, Below.refl _ _⟩

end Go.Proofs.Ytjgoaaabfhjijaa

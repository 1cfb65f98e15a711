/-
  RowOk, of the program and of its model: at most 48 numbers, each from 0 to 1000000000.
-/
import Derived.Test.YtejcpoidoekleaaIn
namespace Go.Proofs.Ytejcpoidoekleaa
set_option maxRecDepth 100000
open Go.RowKit

def numOk (x : Int) : Bool := decide (0 ≤ x) && decide (x ≤ 1000000000)
def rowOk (xs : List Int) : Bool := decide (xs.length ≤ 48) && xs.all numOk

theorem rowOk_long {xs : List Int} (h : 48 < xs.length) : rowOk xs = false := by
  simp only [rowOk, Bool.and_eq_false_iff, decide_eq_false_iff_not]; exact .inl (by omega)
theorem rowOk_bad {xs : List Int} {k : Nat} (hk : k < xs.length) (h : numOk (xs.getD k 0) = false) : rowOk xs = false := by
  simp only [rowOk, Bool.and_eq_false_iff, List.all_eq_false]
  refine .inr ⟨xs.getD k 0, ?_, by rw [h]; simp⟩
  simp [List.getD, List.getElem?_eq_getElem hk]
theorem rowOk_end {xs : List Int} (hl : xs.length ≤ 48) (h : ∀ j, j < xs.length → numOk (xs.getD j 0) = true) : rowOk xs = true := by
  simp only [rowOk, Bool.and_eq_true, decide_eq_true_eq, List.all_eq_true]
  refine ⟨hl, fun x hx => ?_⟩
  obtain ⟨j, hj, rfl⟩ := List.getElem_of_mem hx
  have := h j hj
  simpa [List.getD, List.getElem?_eq_getElem hj] using this

/-- The first k numbers are in range. -/
def OkTo (xs : List Int) (k : Nat) : Prop := ∀ j, j < k → numOk (xs.getD j 0) = true
theorem OkTo.zero (xs : List Int) : OkTo xs 0 := fun j hj => absurd hj (by omega)
theorem OkTo.succ {xs : List Int} {k : Nat} (h : OkTo xs k) (hk : numOk (xs.getD k 0) = true) : OkTo xs (k + 1) := by
  intro j hj
  by_cases e : j = k
  · subst e; exact hk
  · exact h j (by omega)

set_option maxHeartbeats 400000 in
theorem sRowOk_any (A : Option Addr) (n c B : Nat) (xs : List Int) (w : World) (h : IRow w B A n xs) (hn : n ≤ 1048577) :
    Calls Try.prog 98 #[.slice A n c] w fun e w' => e = .returned (.bool (rowOk xs)) ∧ w = w' := by
  have hl := Lib.hid h.1
  by_cases h48 : 48 < n
  · have hr := Lib.hid (rowOk_long (xs := xs) (by rw [h.1]; exact h48))
    clear h
    go_enter Try.func98, Try.ntmps98
    go_wp2
    go_ret
    exact ⟨ret_bool hr.out.symm, rfl⟩
  · go_enter Try.func98, Try.ntmps98
    go_wp2
    go_loop [3] (fun i => ∃ k : Nat, k ≤ n ∧ i = .int .i64 k ∧ OkTo xs k) (fun i => n - (intOf i).toNat)
    case atStart => exact ⟨0, Nat.zero_le _, rfl, OkTo.zero _⟩
    case round =>
      obtain ⟨k, hk, rfl, ho⟩ := hrel
      by_cases hlt : k < n
      · obtain ⟨b, off, rfl, hb, hc⟩ := h.2 (by omega)
        have hcell := hc k hlt
        obtain ⟨x, hx⟩ : ∃ x, x = xs.getD k 0 := ⟨_, rfl⟩
        rw [← hx] at hcell
        have HX := Lib.hid hx
        clear hx hc h
        by_cases hok : 0 ≤ x ∧ x ≤ 1000000000
        · obtain ⟨h1, h2⟩ := hok
          have HO := Lib.hid (ho.succ (by rw [← HX.out]; simp [numOk, h1, h2]))
          go_wp2_with (go_at_call 99; refine (in_any _ _ _ _).mono ?_; rintro e w' ⟨rfl, rfl⟩)
          go_round
          case rel => exact ⟨k + 1, by omega, by go_num, HO.out⟩
          case measure => simp [intOf]; omega
        · have hv : (decide (0 ≤ x) && decide (x ≤ 1000000000)) = false := by
            simp only [Bool.and_eq_false_iff, decide_eq_false_iff_not]; omega
          have HO := Lib.hid (rowOk_bad (xs := xs) (k := k) (by have := hl.out; omega) (by rw [← HX.out]; exact hv))
          clear hok
          go_wp2_with (go_at_call 99; refine (in_any _ _ _ _).mono ?_; rintro e w' ⟨rfl, rfl⟩; rw [hv])
          go_ret
          exact ⟨ret_bool HO.out.symm, rfl⟩
      · go_wp2
        go_ret
        have hr := rowOk_end (xs := xs) (by have := hl.out; omega) (fun j hj => ho j (by have := hl.out; omega))
        exact ⟨ret_bool hr.symm, rfl⟩

set_option maxHeartbeats 400000 in
theorem iRowOk_any (A : Option Addr) (n c B : Nat) (xs : List Int) (w : World) (h : IRow w B A n xs) (hn : n ≤ 1048577) :
    Calls Try.prog 86 #[.slice A n c] w fun e w' => e = .returned (.bool (rowOk xs)) ∧ w = w' := by
  have hl := Lib.hid h.1
  by_cases h48 : 48 < n
  · have hr := Lib.hid (rowOk_long (xs := xs) (by rw [h.1]; exact h48))
    clear h
    go_enter Try.func86, Try.ntmps86
    go_wp2
    go_ret
    exact ⟨ret_bool hr.out.symm, rfl⟩
  · go_enter Try.func86, Try.ntmps86
    go_wp2
    go_loop [10] (fun i => ∃ k : Nat, k ≤ n ∧ i = .int .i64 k ∧ OkTo xs k) (fun i => n - (intOf i).toNat)
    case atStart => exact ⟨0, Nat.zero_le _, rfl, OkTo.zero _⟩
    case round =>
      obtain ⟨k, hk, rfl, ho⟩ := hrel
      by_cases hlt : k < n
      · obtain ⟨b, off, rfl, hb, hc⟩ := h.2 (by omega)
        have hcell := hc k hlt
        obtain ⟨x, hx⟩ : ∃ x, x = xs.getD k 0 := ⟨_, rfl⟩
        rw [← hx] at hcell
        have HX := Lib.hid hx
        clear hx hc h
        by_cases h1 : 0 ≤ x
        · by_cases h2 : x ≤ 1000000000
          · have HO := Lib.hid (ho.succ (by rw [← HX.out]; simp [numOk, h1, h2]))
            go_wp2
            go_round
            case rel => exact ⟨k + 1, by omega, by go_num, HO.out⟩
            case measure => simp [intOf]; omega
          · have HO := Lib.hid (rowOk_bad (xs := xs) (k := k) (by have := hl.out; omega) (by rw [← HX.out]; simp [numOk, h2]))
            go_wp2
            go_ret
            exact ⟨ret_bool HO.out.symm, rfl⟩
        · have HO := Lib.hid (rowOk_bad (xs := xs) (k := k) (by have := hl.out; omega) (by rw [← HX.out]; simp [numOk, h1]))
          go_wp2
          go_ret
          exact ⟨ret_bool HO.out.symm, rfl⟩
      · go_wp2
        go_ret
        have hr := rowOk_end (xs := xs) (by have := hl.out; omega) (fun j hj => ho j (by have := hl.out; omega))
        exact ⟨ret_bool hr.symm, rfl⟩

end Go.Proofs.Ytejcpoidoekleaa

/-
  Chapter 6: clocks, of the model and of the program: validity, the greatest and the smallest (by program, wip/gen/gentima.py).
-/
import Derived.Test.YthekcaahkokjfaaTimM
import Derived.RegionTactic
import Derived.BigQuiet
namespace Go.Proofs.Ythekcaahkokjfaa
set_option maxRecDepth 100000
open Go.RowKit

set_option maxHeartbeats 1600000 in
theorem sTime_any (x : Int) (w : World) :
    Calls Try.prog 29 #[.int .i64 x] w fun e w' => e = .returned (.bool (timeB x)) ∧ w = w' := by
  go_enter Try.func29, Try.ntmps29
  go_wp2_with (first | (go_at_call 62; refine (in_any _ _ _ _).mono ?_; rintro e w' ⟨rfl, rfl⟩))
  all_goals
    go_ret
    refine ⟨ret_bool ?_, rfl⟩
    rfl

set_option maxHeartbeats 1600000 in
theorem iTime_any (x : Int) (w : World) :
    Calls Try.prog 30 #[.int .i64 x] w fun e w' => e = .returned (.bool (timeB x)) ∧ w = w' := by
  go_enter Try.func30, Try.ntmps30
  go_wp2
  all_goals
    go_ret
    refine ⟨ret_bool ?_, rfl⟩
    first | rfl | (simp_all [timeB]; done) | (rw [Bool.eq_iff_iff]; simp_all [timeB] <;> omega) | (simp_all [timeB] <;> omega)

theorem irow_at {w : World} {B n : Nat} {A : Option Addr} {xs : List Int} (h : IRow w B A n xs) (hn : 0 < n) : ∃ b off, A = some ⟨b, off, none⟩ ∧ b < B ∧ ∀ j (hj : j < xs.length), w.cell? ⟨b, off + j, none⟩ = some (.int .i64 xs[j]) := by
  obtain ⟨b, off, rfl, hb, hc⟩ := h.2 hn
  refine ⟨b, off, rfl, hb, fun j hj => ?_⟩
  have := hc j (by rw [← h.1]; exact hj)
  simpa [List.getD, List.getElem?_eq_getElem hj] using this

set_option maxHeartbeats 3200000 in
theorem sClocks_any (A : Option Addr) (n c B : Nat) (l : List Int) (w : World) (h : IRow w B A n l) (hn : n ≤ 1048577) :
    Calls Try.prog 31 #[.slice A n c] w fun e w' => e = .returned (.bool (clocksB l)) ∧ w = w' := by
  have HL := Lib.hid h.1
  by_cases h6 : n = 6
  case neg =>
    have HD := Lib.hid (clocksB_len (l := l) (by rw [h.1]; exact h6))
    clear h
    go_enter Try.func31, Try.ntmps31
    go_wp2
    go_ret
    exact ⟨ret_bool HD.out.symm, rfl⟩
  case pos =>
    subst h6
    have hel := irow_at h (by omega)
    clear h
    go_enter Try.func31, Try.ntmps31
    go_wp2
    go_loop [3] (fun i => ∃ j : Nat, j ≤ 6 ∧ i = .int .i64 (j : Int) ∧ (l.take j).all timeB = true) (fun i => 6 - (intOf i).toNat)
    case atStart => exact ⟨0, Nat.zero_le _, rfl, by simp⟩
    case round =>
      obtain ⟨j, hj, rfl, hall⟩ := hrel
      by_cases hlt : j < 6
      · obtain ⟨b, off, rfl, hb, hc⟩ := hel
        have hjl : j < l.length := by have := HL.out; omega
        have cs0 := hc j hjl
        have HJ := Lib.hid hjl
        have HA := Lib.hid hall
        obtain ⟨x, hx⟩ : ∃ q : Int, q = l[j]'hjl := ⟨_, rfl⟩
        rw [← hx] at cs0
        have HX := Lib.hid hx
        clear hx hc hall
        go_wp2_with fail
        refine (sTime_any x _).mono ?_
        rintro e _ ⟨rfl, rfl⟩
        cases hok : timeB x
        case false =>
          have HD := Lib.hid (clocksB_bad HJ.out (by rw [← HX.out]; exact hok))
          clear hok
          go_wp2
          go_ret
          exact ⟨ret_bool HD.out.symm, rfl⟩
        case true =>
          have HN := Lib.hid (all_more HJ.out HA.out (by rw [← HX.out]; exact hok))
          clear hok
          go_wp2
          go_round
          case rel => exact ⟨j + 1, by omega, by go_num, HN.out⟩
          case measure => simp [intOf]; omega
      · have HD := Lib.hid (clocksB_yes HL.out (by rw [List.take_of_length_le (by have := HL.out; omega)] at hall; exact hall))
        clear hall hel
        go_wp2
        go_ret
        exact ⟨ret_bool HD.out.symm, rfl⟩

set_option maxHeartbeats 3200000 in
theorem iClocks_any (A : Option Addr) (n c B : Nat) (l : List Int) (w : World) (h : IRow w B A n l) (hn : n ≤ 1048577) :
    Calls Try.prog 33 #[.slice A n c] w fun e w' => e = .returned (.bool (clocksB l)) ∧ w = w' := by
  have HL := Lib.hid h.1
  by_cases h6 : n = 6
  case neg =>
    have HD := Lib.hid (clocksB_len (l := l) (by rw [h.1]; exact h6))
    clear h
    go_enter Try.func33, Try.ntmps33
    go_wp2
    go_ret
    exact ⟨ret_bool HD.out.symm, rfl⟩
  case pos =>
    subst h6
    have hel := irow_at h (by omega)
    clear h
    go_enter Try.func33, Try.ntmps33
    go_wp2
    go_loop [10] (fun i => ∃ j : Nat, j ≤ 6 ∧ i = .int .i64 (j : Int) ∧ (l.take j).all timeB = true) (fun i => 6 - (intOf i).toNat)
    case atStart => exact ⟨0, Nat.zero_le _, rfl, by simp⟩
    case round =>
      obtain ⟨j, hj, rfl, hall⟩ := hrel
      by_cases hlt : j < 6
      · obtain ⟨b, off, rfl, hb, hc⟩ := hel
        have hjl : j < l.length := by have := HL.out; omega
        have cs0 := hc j hjl
        have HJ := Lib.hid hjl
        have HA := Lib.hid hall
        obtain ⟨x, hx⟩ : ∃ q : Int, q = l[j]'hjl := ⟨_, rfl⟩
        rw [← hx] at cs0
        have HX := Lib.hid hx
        clear hx hc hall
        go_wp2_with fail
        refine (iTime_any x _).mono ?_
        rintro e _ ⟨rfl, rfl⟩
        cases hok : timeB x
        case false =>
          have HD := Lib.hid (clocksB_bad HJ.out (by rw [← HX.out]; exact hok))
          clear hok
          go_wp2
          go_ret
          exact ⟨ret_bool HD.out.symm, rfl⟩
        case true =>
          have HN := Lib.hid (all_more HJ.out HA.out (by rw [← HX.out]; exact hok))
          clear hok
          go_wp2
          go_round
          case rel => exact ⟨j + 1, by omega, by go_num, HN.out⟩
          case measure => simp [intOf]; omega
      · have HD := Lib.hid (clocksB_yes HL.out (by rw [List.take_of_length_le (by have := HL.out; omega)] at hall; exact hall))
        clear hall hel
        go_wp2
        go_ret
        exact ⟨ret_bool HD.out.symm, rfl⟩

end Go.Proofs.Ythekcaahkokjfaa

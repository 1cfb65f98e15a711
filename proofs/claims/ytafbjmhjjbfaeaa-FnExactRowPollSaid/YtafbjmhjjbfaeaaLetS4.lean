/-
  Chapter 11: messages decoded, of the model (by program, wip/gen/genlets4.py).
-/
import Derived.Test.YtafbjmhjjbfaeaaLetS1
import Derived.Test.YtafbjmhjjbfaeaaLetN
import Derived.Test.YtafbjmhjjbfaeaaEntL
import Derived.Test.YtafbjmhjjbfaeaaMove
import Derived.RegionTactic
import Derived.BigQuiet
import Derived.Laws.EntriesVeiled
namespace Go.Proofs.Ytafbjmhjjbfaeaa
set_option maxRecDepth 100000
open Go.RowKit

set_option linter.unusedVariables false
set_option linter.unusedSimpArgs false
theorem sIs_any (A : Option Addr) (n cc B : Nat) (d : List Int) (kk m : Int) (w : World) (h : IRow w B A n d) (hm : 0 < m) :
    Calls Try.prog 54 #[.slice A n cc, .int .i64 kk, .int .i64 m] w fun e w' => e = .returned (.bool (decide ((n : Int) = m) && decide (d.getD 0 0 = kk))) ∧ w = w' := by
  by_cases h1 : (n : Int) = m
  · obtain ⟨b, off, rfl, hb, hc⟩ := h.2 (by omega)
    have k0 := hc 0 (by omega)
    obtain ⟨x, hx⟩ : ∃ x, x = d.getD 0 0 := ⟨_, rfl⟩
    rw [← hx, Nat.add_zero] at k0
    rw [← hx]
    have hn0 : (0 : Int) < (n : Int) := by omega
    have hn1 : 0 < n := by omega
    have g1 : ((n : Int) == m) = true := by simpa using h1
    have g2 : decide ((n : Int) = m) = true := decide_eq_true h1
    have H1 := Lib.hid h1
    clear h h1 hc hx hm
    by_cases h2 : x = kk
    · have g3 : (x == kk) = true := by simpa using h2
      have g4 : decide (x = kk) = true := decide_eq_true h2
      clear h2
      go_enter Try.func54, Try.ntmps54
      go_wp2
      go_ret
      exact ⟨ret_bool (by first | rfl | simp_all), rfl⟩
    · have g3 : (x == kk) = false := by simpa using h2
      have g4 : decide (x = kk) = false := decide_eq_false h2
      clear h2
      go_enter Try.func54, Try.ntmps54
      go_wp2
      go_ret
      exact ⟨ret_bool (by first | rfl | simp_all), rfl⟩
  · have g1 : ((n : Int) == m) = false := by simpa using h1
    have g2 : decide ((n : Int) = m) = false := decide_eq_false h1
    clear h h1
    go_enter Try.func54, Try.ntmps54
    go_wp2
    go_ret
    exact ⟨ret_bool (by first | rfl | simp_all), rfl⟩

set_option maxHeartbeats 6400000 in
theorem sRowOne_any (A : Option Addr) (n cc B : Nat) (d : List Int) (kk lo hi : Int) (w : World) (h : IRow w B A n d) :
    Calls Try.prog 36 #[.slice A n cc, .int .i64 kk, .int .i64 lo, .int .i64 hi] w fun e w' => e = .returned (.tuple #[.int .i64 (rowOneM kk lo hi d).1, .bool (rowOneM kk lo hi d).2]) ∧ w = w' := by
  have KK := Lib.hid (sIs_any A n cc B d kk 2 w h (by decide))
  have HL := Lib.hid h.1
  by_cases hK : n = 2 ∧ d.getD 0 0 = kk
  case neg =>
    have HD := Lib.hid (show rowOneM kk lo hi d = (0, false) by unfold rowOneM; rw [if_neg (fun h9 => hK ⟨by have := HL.out; omega, h9.2.1⟩)])
    rw [show (decide ((n : Int) = 2) && decide (d.getD 0 0 = kk)) = false by rw [Bool.and_eq_false_iff, decide_eq_false_iff_not, decide_eq_false_iff_not]; omega] at KK
    clear h hK
    go_enter Try.func36, Try.ntmps36
    go_wp2_with (first | (go_at_call 54; refine KK.out.mono ?_; rintro e w9 ⟨rfl, rfl⟩))
    exact bodyPost_ret (v := .tuple #[.int .i64 0, .bool false]) (by simp [results, Try.results36, go_sem]) rfl ⟨by rw [HD.out], rfl⟩
  case pos =>
    have hn9 := hK.1
    subst hn9
    have hd0 := hK.2
    obtain ⟨b, off, rfl, hb, hc⟩ := h.2 (by omega)
    obtain ⟨x0, hx0⟩ : ∃ x, x = d.getD 1 0 := ⟨_, rfl⟩
    have k0 := hc 1 (by omega)
    rw [← hx0] at k0
    rw [decide_eq_true hd0, show decide (((2 : Nat) : Int) = 2) = true from rfl, Bool.and_true] at KK
    have HK := Lib.hid hd0
    have HX := Lib.hid hx0
    clear h hc hd0 hK hx0
    by_cases hin : lo ≤ x0 ∧ x0 ≤ hi
    case neg =>
      have HD := Lib.hid (show rowOneM kk lo hi d = (0, false) by unfold rowOneM; rw [if_neg (fun h9 => hin (by have h8 := (inB_iff _ _ _).1 h9.2.2; rw [HX.out]; exact h8))])
      have g1 : (decide (lo ≤ x0) && decide (x0 ≤ hi)) = false := by rw [Bool.and_eq_false_iff, decide_eq_false_iff_not, decide_eq_false_iff_not]; omega
      clear hin
      go_enter Try.func36, Try.ntmps36
      go_wp2_with (first | (go_at_call 54; refine KK.out.mono ?_; rintro e w9 ⟨rfl, rfl⟩) | (go_at_call 39; refine (in_any _ _ _ _).mono ?_; rintro e w' ⟨rfl, rfl⟩))
      exact bodyPost_ret (v := .tuple #[.int .i64 0, .bool false]) (by simp [results, Try.results36, go_sem]) rfl ⟨by rw [HD.out], rfl⟩
    case pos =>
      have HD := Lib.hid (show rowOneM kk lo hi d = (x0, true) by unfold rowOneM; rw [if_pos ⟨HL.out, HK.out, (inB_iff _ _ _).2 (by rw [← HX.out]; exact hin)⟩, HX.out])
      have g1 : decide (lo ≤ x0) = true := decide_eq_true hin.1
      have g2 : decide (x0 ≤ hi) = true := decide_eq_true hin.2
      clear hin
      go_enter Try.func36, Try.ntmps36
      go_wp2_with (first | (go_at_call 54; refine KK.out.mono ?_; rintro e w9 ⟨rfl, rfl⟩) | (go_at_call 39; refine (in_any _ _ _ _).mono ?_; rintro e w' ⟨rfl, rfl⟩))
      exact bodyPost_ret (v := .tuple #[.int .i64 x0, .bool true]) (by simp [results, Try.results36, go_sem]) rfl ⟨by rw [HD.out], rfl⟩

set_option maxHeartbeats 3200000 in
theorem sRowPoll_at (A : Option Addr) (n c : Nat) (d0 : List Int) (w : World) (h : Rd w w.heap.size (rowCells d0) [.slice A n c]) (_hs : d0.length ≤ 1048576) :
    Calls Try.prog 14 #[.slice A n c] w fun e w' => e = .returned (.tuple #[.int .i64 (rowPollM d0).1, .bool (rowPollM d0).2]) ∧ Below w.heap.size w w' := by
  obtain ⟨_, _, _, e, hi, _, _⟩ := h.irow
  injection e with e1 e2 e3
  subst e1 e2 e3
  have KK := Lib.hid (sRowOne_any A n c w.heap.size d0 8 2 3 w hi)
  obtain ⟨y, hy⟩ : ∃ y, y = (rowPollM d0).1 := ⟨_, rfl⟩
  obtain ⟨f, hf⟩ : ∃ f, f = (rowPollM d0).2 := ⟨_, rfl⟩
  rw [show rowOneM 8 2 3 d0 = rowPollM d0 from rfl, ← hy, ← hf] at KK
  rw [← hy, ← hf]
  clear hi h hy hf
  go_enter Try.func14, Try.ntmps14
  go_wp2_with (first | (go_at_call 36; refine KK.out.mono ?_; rintro e w9 ⟨rfl, rfl⟩))
  exact bodyPost_ret (v := .tuple #[.int .i64 y, .bool f]) (by simp [results, Try.results14, go_sem]) rfl ⟨rfl, Below.refl _ _⟩

end Go.Proofs.Ytafbjmhjjbfaeaa

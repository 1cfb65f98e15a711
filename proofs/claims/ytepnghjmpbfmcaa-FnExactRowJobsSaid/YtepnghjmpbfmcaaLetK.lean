/-
  Chapter 11: the kind of a row, of the model and of the program (by program, wip/gen/genletk.py).
-/
import Derived.Test.YtepnghjmpbfmcaaLetN
import Derived.Test.YtepnghjmpbfmcaaKA
import Derived.RegionTactic
import Derived.BigQuiet
namespace Go.Proofs.Ytepnghjmpbfmcaa
set_option maxRecDepth 100000
open Go.RowKit

theorem kindM_no {d : List Int} (h : ¬ (rowOk d = true ∧ 0 < d.length ∧ 1 ≤ d.getD 0 0 ∧ d.getD 0 0 ≤ 9)) : kindM d = 0 := by
  unfold kindM
  rw [if_neg (fun h9 => h ⟨h9.1, h9.2.1, (inB_iff _ _ _).1 h9.2.2⟩)]
theorem kindM_yes {d : List Int} (h : rowOk d = true ∧ 0 < d.length ∧ 1 ≤ d.getD 0 0 ∧ d.getD 0 0 ≤ 9) : kindM d = d.getD 0 0 := by
  unfold kindM
  rw [if_pos ⟨h.1, h.2.1, (inB_iff _ _ _).2 h.2.2⟩]

theorem iKindOf_any (A : Option Addr) (n cc B : Nat) (d : List Int) (w : World) (h : IRow w B A n d) (hn : n ≤ 1048577) :
    Calls Try.prog 27 #[.slice A n cc] w fun e w' => e = .returned (.int .i64 (kindM d)) ∧ Below w.heap.size w w' := by
  have K := Lib.hid (iRowOk_any A n cc B d w h hn)
  have HL := Lib.hid h.1
  by_cases hn0 : n = 0
  · subst hn0
    have HV := Lib.hid (kindM_no (d := d) (fun h9 => by have := HL.out; omega))
    have hd : d = [] := List.eq_nil_of_length_eq_zero (by have := HL.out; omega)
    have hr : rowOk d = true := by rw [hd]; rfl
    rw [hr] at K
    clear h hd hr hn
    go_enter Try.func27, Try.ntmps27
    go_wp2_with (first
      | (go_at_call 49; refine K.out.mono ?_; rintro e w' ⟨rfl, rfl⟩))
    go_ret
    exact ⟨ret_i64 HV.out.symm, Below.refl _ _⟩
  · have e1 : ((n : Int) == 0) = false := by simp; omega
    have e2 : decide ((n : Int) = 0) = false := by simp; omega
    obtain ⟨b, off, rfl, hb, hc⟩ := h.2 (by omega)
    obtain ⟨x, hx⟩ : ∃ x, x = d.getD 0 0 := ⟨_, rfl⟩
    have k0 := hc 0 (by omega)
    rw [← hx, Nat.add_zero] at k0
    have HX := Lib.hid hx
    have hn1 : (0 : Int) < (n : Int) := by omega
    cases hr : rowOk d
    · have HV := Lib.hid (kindM_no (d := d) (fun h9 => by rw [hr] at h9; cases h9.1))
      rw [hr] at K
      clear h hc hr hx hn
      go_enter Try.func27, Try.ntmps27
      go_wp2_with (first
        | (go_at_call 49; refine K.out.mono ?_; rintro e w' ⟨rfl, rfl⟩))
      go_ret
      exact ⟨ret_i64 HV.out.symm, Below.refl _ _⟩
    · rw [hr] at K
      by_cases c1 : 1 ≤ x
      · by_cases c2 : x ≤ 9
        · have HV := Lib.hid (kindM_yes (d := d) ⟨hr, by have := HL.out; omega, by rw [← hx]; exact c1, by rw [← hx]; exact c2⟩)
          have g1 : decide (1 ≤ x) = true := decide_eq_true c1
          have g2 : decide (x ≤ 9) = true := decide_eq_true c2
          have g3 : decide (x < 1) = false := decide_eq_false (by omega)
          have g4 : decide (9 < x) = false := decide_eq_false (by omega)
          have g5 : decide (x > 9) = false := decide_eq_false (by omega)
          rw [← hx] at HV
          clear h hc hr hx hn c1 c2
          go_enter Try.func27, Try.ntmps27
          go_wp2_with (first
            | (go_at_call 49; refine K.out.mono ?_; rintro e w' ⟨rfl, rfl⟩))
          go_ret
          exact ⟨ret_i64 HV.out.symm, Below.refl _ _⟩
        · have HV := Lib.hid (kindM_no (d := d) (fun h9 => by rw [← hx] at h9; omega))
          have g1 : decide (1 ≤ x) = true := decide_eq_true c1
          have g2 : decide (x ≤ 9) = false := decide_eq_false c2
          have g3 : decide (x < 1) = false := decide_eq_false (by omega)
          have g4 : decide (9 < x) = true := decide_eq_true (by omega)
          have g5 : decide (x > 9) = true := decide_eq_true (by omega)
          clear h hc hr hx hn c1 c2
          go_enter Try.func27, Try.ntmps27
          go_wp2_with (first
            | (go_at_call 49; refine K.out.mono ?_; rintro e w' ⟨rfl, rfl⟩))
          go_ret
          exact ⟨ret_i64 HV.out.symm, Below.refl _ _⟩
      · have HV := Lib.hid (kindM_no (d := d) (fun h9 => by rw [← hx] at h9; omega))
        have g1 : decide (1 ≤ x) = false := decide_eq_false c1
        have g3 : decide (x < 1) = true := decide_eq_true (by omega)
        clear h hc hr hx hn c1
        go_enter Try.func27, Try.ntmps27
        go_wp2_with (first
          | (go_at_call 49; refine K.out.mono ?_; rintro e w' ⟨rfl, rfl⟩))
        go_ret
        exact ⟨ret_i64 HV.out.symm, Below.refl _ _⟩

theorem iKindOf_at (A : Option Addr) (n c : Nat) (d0 : List Int) (w : World) (h : Rd w w.heap.size (rowCells d0) [.slice A n c]) (hs : d0.length ≤ 1048576) :
    Calls Try.prog 27 #[.slice A n c] w fun e w' => e = .returned (.int .i64 (kindM d0)) ∧ Below w.heap.size w w' := by
  obtain ⟨_, _, _, e, hi, _, _⟩ := h.irow
  injection e with e1 e2 e3
  subst e1 e2 e3
  exact iKindOf_any A n c w.heap.size d0 w hi (by have := hi.1; omega)

end Go.Proofs.Ytepnghjmpbfmcaa

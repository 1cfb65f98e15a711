/-
  Chapter 6: the greatest and the smallest clock, of the model and of the program (by program, wip/gen/gentimb.py).
-/
import Derived.Test.YthekcaahkokjfaaTimC1
import Derived.RegionTactic
import Derived.BigQuiet
namespace Go.Proofs.Ythekcaahkokjfaa
set_option maxRecDepth 100000
open Go.RowKit

set_option maxHeartbeats 3200000 in
theorem iMax_any (A : Option Addr) (n c B : Nat) (l : List Int) (w : World) (h : IRow w B A n l) (hn : n = 6) :
    Calls Try.prog 53 #[.slice A n c] w fun e w' => e = .returned (.int .i64 (maxN l l.length)) ∧ w = w' := by
  have HL := Lib.hid h.1
  subst hn
  obtain ⟨b, off, rfl, hb, hc⟩ := irow_at h (by omega)
  clear h
  have h0 : 0 < l.length := by have := HL.out; omega
  have cs0 := hc 0 h0
  have HC := Lib.hid hc
  obtain ⟨x0, hx0⟩ : ∃ q : Int, q = l[0]'h0 := ⟨_, rfl⟩
  rw [← hx0] at cs0
  have HM := Lib.hid (show maxN l 1 = x0 by rw [hx0]; exact maxN_one h0)
  clear hc hx0 h0
  rw [Nat.add_zero] at cs0
  go_enter Try.func53, Try.ntmps53
  go_wp2
  go_loop [3, 4] (fun m i => ∃ j : Nat, 1 ≤ j ∧ j ≤ 6 ∧ i = .int .i64 (j : Int) ∧ m = .int .i64 (maxN l j)) (fun _ i => 6 - (intOf i).toNat)
  case atStart => exact ⟨1, Nat.le_refl _, by omega, rfl, by rw [HM.out]⟩
  case round =>
    obtain ⟨j, h1, hj, rfl, rfl⟩ := hrel
    clear cs0
    by_cases hlt : j < 6
    · have hjl : j < l.length := by have := HL.out; omega
      have cs1 := HC.out j hjl
      obtain ⟨x, hx⟩ : ∃ q : Int, q = l[j]'hjl := ⟨_, rfl⟩
      rw [← hx] at cs1
      obtain ⟨y, hy⟩ : ∃ q : Int, q = maxN l j := ⟨_, rfl⟩
      have HN := Lib.hid (show maxN l (j + 1) = max y x by rw [hx, hy]; exact maxN_step hjl)
      rw [← hy]
      clear hx hy hjl
      go_wp2
      go_round
      case rel => exact ⟨j + 1, by omega, by omega, by go_num, by rw [HN.out]; exact congrArg (Value.int .i64) (by first | (split <;> omega) | omega)⟩
      case measure => simp [intOf]; omega
    · go_wp2
      go_ret
      have e : j = l.length := by have := HL.out; omega
      rw [← e]
      exact ⟨rfl, rfl⟩

set_option maxHeartbeats 3200000 in
theorem iMin_any (A : Option Addr) (n c B : Nat) (l : List Int) (w : World) (h : IRow w B A n l) (hn : n = 6) :
    Calls Try.prog 54 #[.slice A n c] w fun e w' => e = .returned (.int .i64 (minN l l.length)) ∧ w = w' := by
  have HL := Lib.hid h.1
  subst hn
  obtain ⟨b, off, rfl, hb, hc⟩ := irow_at h (by omega)
  clear h
  have h0 : 0 < l.length := by have := HL.out; omega
  have cs0 := hc 0 h0
  have HC := Lib.hid hc
  obtain ⟨x0, hx0⟩ : ∃ q : Int, q = l[0]'h0 := ⟨_, rfl⟩
  rw [← hx0] at cs0
  have HM := Lib.hid (show minN l 1 = x0 by rw [hx0]; exact minN_one h0)
  clear hc hx0 h0
  rw [Nat.add_zero] at cs0
  go_enter Try.func54, Try.ntmps54
  go_wp2
  go_loop [3, 4] (fun m i => ∃ j : Nat, 1 ≤ j ∧ j ≤ 6 ∧ i = .int .i64 (j : Int) ∧ m = .int .i64 (minN l j)) (fun _ i => 6 - (intOf i).toNat)
  case atStart => exact ⟨1, Nat.le_refl _, by omega, rfl, by rw [HM.out]⟩
  case round =>
    obtain ⟨j, h1, hj, rfl, rfl⟩ := hrel
    clear cs0
    by_cases hlt : j < 6
    · have hjl : j < l.length := by have := HL.out; omega
      have cs1 := HC.out j hjl
      obtain ⟨x, hx⟩ : ∃ q : Int, q = l[j]'hjl := ⟨_, rfl⟩
      rw [← hx] at cs1
      obtain ⟨y, hy⟩ : ∃ q : Int, q = minN l j := ⟨_, rfl⟩
      have HN := Lib.hid (show minN l (j + 1) = min y x by rw [hx, hy]; exact minN_step hjl)
      rw [← hy]
      clear hx hy hjl
      go_wp2
      go_round
      case rel => exact ⟨j + 1, by omega, by omega, by go_num, by rw [HN.out]; exact congrArg (Value.int .i64) (by first | (split <;> omega) | omega)⟩
      case measure => simp [intOf]; omega
    · go_wp2
      go_ret
      have e : j = l.length := by have := HL.out; omega
      rw [← e]
      exact ⟨rfl, rfl⟩

set_option maxHeartbeats 1600000 in
theorem sMax_any (a b : Int) (w : World) :
    Calls Try.prog 65 #[.int .i64 a, .int .i64 b] w fun e w' => e = .returned (.int .i64 (max a b)) ∧ w = w' := by
  by_cases h : b < a
  all_goals
    go_enter Try.func65, Try.ntmps65
    go_wp2
    go_ret
    refine ⟨ret_i64 ?_, rfl⟩
    omega

set_option maxHeartbeats 1600000 in
theorem sMin_any (a b : Int) (w : World) :
    Calls Try.prog 66 #[.int .i64 a, .int .i64 b] w fun e w' => e = .returned (.int .i64 (min a b)) ∧ w = w' := by
  by_cases h : a < b
  all_goals
    go_enter Try.func66, Try.ntmps66
    go_wp2
    go_ret
    refine ⟨ret_i64 ?_, rfl⟩
    omega

set_option maxHeartbeats 3200000 in
theorem sLatest_any (A : Option Addr) (n c B : Nat) (l : List Int) (w : World) (h : IRow w B A n l) (hn : n ≤ 1048577) :
    Calls Try.prog 39 #[.slice A n c] w fun e w' => e = .returned (.int .i64 (latestM l)) ∧ w = w' := by
  have HH := Lib.hid h
  have hl := h.1
  go_enter Try.func39, Try.ntmps39
  go_wp2_with fail
  refine (sClocks_any A n c B l _ h hn).mono ?_
  rintro e _ ⟨rfl, rfl⟩
  cases hok : clocksB l
  case false =>
    have HD := Lib.hid (show latestM l = 0 by unfold latestM; rw [hok]; rfl)
    clear hok h hl
    go_wp2
    go_ret
    exact ⟨ret_i64 HD.out.symm, rfl⟩
  case true =>
    have HD := Lib.hid (show latestM l = maxN l l.length by unfold latestM; rw [if_pos hok])
    have HK := Lib.hid hok
    have h6 : n = 6 := by rw [← hl]; exact (clocksB_spec hok).1
    subst h6
    have HL := Lib.hid hl
    obtain ⟨b, off, rfl, hb, hc⟩ := irow_at h (by omega)
    clear h hl hok
    have h0 : 0 < l.length := by have := HL.out; omega
    have cs0 := hc 0 h0
    have HC := Lib.hid hc
    obtain ⟨x0, hx0⟩ : ∃ q : Int, q = l[0]'h0 := ⟨_, rfl⟩
    rw [← hx0] at cs0
    have HM := Lib.hid (show maxN l 1 = x0 by rw [hx0]; exact maxN_one h0)
    clear hc hx0 h0
    rw [Nat.add_zero] at cs0
    go_wp2
    go_loop [3, 4] (fun m i => ∃ j : Nat, 1 ≤ j ∧ j ≤ 6 ∧ i = .int .i64 (j : Int) ∧ m = .int .i64 (maxN l j)) (fun _ i => 6 - (intOf i).toNat)
    case atStart => exact ⟨1, Nat.le_refl _, by omega, rfl, by rw [HM.out]⟩
    case round =>
      obtain ⟨j, h1, hj, rfl, rfl⟩ := hrel
      clear cs0
      by_cases hlt : j < 6
      · have hjl : j < l.length := by have := HL.out; omega
        have cs1 := HC.out j hjl
        obtain ⟨x, hx⟩ : ∃ q : Int, q = l[j]'hjl := ⟨_, rfl⟩
        rw [← hx] at cs1
        obtain ⟨y, hy⟩ : ∃ q : Int, q = maxN l j := ⟨_, rfl⟩
        have HN := Lib.hid (show maxN l (j + 1) = max y x by rw [hx, hy]; exact maxN_step hjl)
        rw [← hy]
        clear hx hy hjl
        go_wp2_with fail
        refine (sMax_any y x _).mono ?_
        rintro e _ ⟨rfl, rfl⟩
        go_wp2
        go_round
        case rel => exact ⟨j + 1, by omega, by omega, by go_num, by rw [HN.out]⟩
        case measure => simp [intOf]; omega
      · have e : j = l.length := by have := HL.out; omega
        rw [e]
        go_wp2
        go_ret
        exact ⟨ret_i64 HD.out.symm, rfl⟩

set_option maxHeartbeats 3200000 in
theorem sApartIn_any (A : Option Addr) (n c B : Nat) (l : List Int) (w : World) (h : IRow w B A n l) (hn : n ≤ 1048577) :
    Calls Try.prog 40 #[.slice A n c] w fun e w' => e = .returned (.int .i64 (apartM l)) ∧ w = w' := by
  have HH := Lib.hid h
  have hl := h.1
  go_enter Try.func40, Try.ntmps40
  go_wp2_with fail
  refine (sClocks_any A n c B l _ h hn).mono ?_
  rintro e _ ⟨rfl, rfl⟩
  cases hok : clocksB l
  case false =>
    have HD := Lib.hid (show apartM l = 0 by unfold apartM; rw [hok]; rfl)
    clear hok h hl
    go_wp2
    go_ret
    exact ⟨ret_i64 HD.out.symm, rfl⟩
  case true =>
    have HD := Lib.hid (show apartM l = maxN l l.length - minN l l.length by unfold apartM; rw [if_pos hok])
    have HK := Lib.hid hok
    have h6 : n = 6 := by rw [← hl]; exact (clocksB_spec hok).1
    subst h6
    have HL := Lib.hid hl
    obtain ⟨b, off, rfl, hb, hc⟩ := irow_at h (by omega)
    clear h hl hok
    have h0 : 0 < l.length := by have := HL.out; omega
    have cs0 := hc 0 h0
    have HC := Lib.hid hc
    obtain ⟨x0, hx0⟩ : ∃ q : Int, q = l[0]'h0 := ⟨_, rfl⟩
    rw [← hx0] at cs0
    have HM := Lib.hid (show minN l 1 = x0 by rw [hx0]; exact minN_one h0)
    clear hc hx0 h0
    rw [Nat.add_zero] at cs0
    go_wp2
    go_loop [3, 4] (fun m i => ∃ j : Nat, 1 ≤ j ∧ j ≤ 6 ∧ i = .int .i64 (j : Int) ∧ m = .int .i64 (minN l j)) (fun _ i => 6 - (intOf i).toNat)
    case atStart => exact ⟨1, Nat.le_refl _, by omega, rfl, by rw [HM.out]⟩
    case round =>
      obtain ⟨j, h1, hj, rfl, rfl⟩ := hrel
      clear cs0
      by_cases hlt : j < 6
      · have hjl : j < l.length := by have := HL.out; omega
        have cs1 := HC.out j hjl
        obtain ⟨x, hx⟩ : ∃ q : Int, q = l[j]'hjl := ⟨_, rfl⟩
        rw [← hx] at cs1
        obtain ⟨y, hy⟩ : ∃ q : Int, q = minN l j := ⟨_, rfl⟩
        have HN := Lib.hid (show minN l (j + 1) = min y x by rw [hx, hy]; exact minN_step hjl)
        rw [← hy]
        clear hx hy hjl
        go_wp2_with fail
        refine (sMin_any y x _).mono ?_
        rintro e _ ⟨rfl, rfl⟩
        go_wp2
        go_round
        case rel => exact ⟨j + 1, by omega, by omega, by go_num, by rw [HN.out]⟩
        case measure => simp [intOf]; omega
      · have e : j = l.length := by have := HL.out; omega
        rw [e]
        have hr0 := maxN_range (clocksB_spec HK.out).2 l.length (by omega) (Nat.le_refl _)
        have hr1 := minN_range (clocksB_spec HK.out).2 l.length (by omega) (Nat.le_refl _)
        have HT := Lib.hid (show latestM l = maxN l l.length by unfold latestM; rw [if_pos HK.out])
        have he : ¬ (l.length < 6) := by omega
        clear e
        go_wp2_with fail
        refine (sLatest_any _ 6 c B l _ HH.out (by omega)).mono ?_
        rintro e _ ⟨rfl, rfl⟩
        rw [HT.out]
        generalize maxN l l.length = a at *
        generalize minN l l.length = b at *
        obtain ⟨h1, h2⟩ := hr0
        obtain ⟨h3, h4⟩ := hr1
        go_wp2
        go_ret
        exact ⟨ret_i64 HD.out.symm, rfl⟩

set_option maxHeartbeats 3200000 in
theorem iLatest_any (A : Option Addr) (n c B : Nat) (l : List Int) (w : World) (h : IRow w B A n l) (hn : n ≤ 1048577) :
    Calls Try.prog 22 #[.slice A n c] w fun e w' => e = .returned (.int .i64 (latestM l)) ∧ w = w' := by
  have HH := Lib.hid h
  have hl := h.1
  go_enter Try.func22, Try.ntmps22
  go_wp2_with fail
  refine (iClocks_any A n c B l _ h hn).mono ?_
  rintro e _ ⟨rfl, rfl⟩
  cases hok : clocksB l
  case false =>
    have HD := Lib.hid (show latestM l = 0 by unfold latestM; rw [hok]; rfl)
    clear hok h hl
    go_wp2
    go_ret
    exact ⟨ret_i64 HD.out.symm, rfl⟩
  case true =>
    have HD := Lib.hid (show latestM l = maxN l l.length by unfold latestM; rw [if_pos hok])
    have HK := Lib.hid hok
    have h6 : n = 6 := by rw [← hl]; exact (clocksB_spec hok).1
    subst h6
    have HL := Lib.hid hl
    clear h hl hok
    go_wp2_with fail
    refine (iMax_any A 6 c B l _ HH.out rfl).mono ?_
    rintro e _ ⟨rfl, rfl⟩
    go_wp2
    go_ret
    exact ⟨ret_i64 HD.out.symm, rfl⟩

set_option maxHeartbeats 3200000 in
theorem iApartIn_any (A : Option Addr) (n c B : Nat) (l : List Int) (w : World) (h : IRow w B A n l) (hn : n ≤ 1048577) :
    Calls Try.prog 23 #[.slice A n c] w fun e w' => e = .returned (.int .i64 (apartM l)) ∧ w = w' := by
  have HH := Lib.hid h
  have hl := h.1
  go_enter Try.func23, Try.ntmps23
  go_wp2_with fail
  refine (iClocks_any A n c B l _ h hn).mono ?_
  rintro e _ ⟨rfl, rfl⟩
  cases hok : clocksB l
  case false =>
    have HD := Lib.hid (show apartM l = 0 by unfold apartM; rw [hok]; rfl)
    clear hok h hl
    go_wp2
    go_ret
    exact ⟨ret_i64 HD.out.symm, rfl⟩
  case true =>
    have HD := Lib.hid (show apartM l = maxN l l.length - minN l l.length by unfold apartM; rw [if_pos hok])
    have HK := Lib.hid hok
    have h6 : n = 6 := by rw [← hl]; exact (clocksB_spec hok).1
    subst h6
    have HL := Lib.hid hl
    clear h hl hok
    have hr0 := maxN_range (clocksB_spec HK.out).2 l.length (by have := HL.out; omega) (Nat.le_refl _)
    have hr1 := minN_range (clocksB_spec HK.out).2 l.length (by have := HL.out; omega) (Nat.le_refl _)
    go_wp2_with fail
    refine (iMax_any A 6 c B l _ HH.out rfl).mono ?_
    rintro e _ ⟨rfl, rfl⟩
    go_wp2_with fail
    refine (iMin_any A 6 c B l _ HH.out rfl).mono ?_
    rintro e _ ⟨rfl, rfl⟩
    generalize maxN l l.length = a at *
    generalize minN l l.length = b at *
    obtain ⟨h1, h2⟩ := hr0
    obtain ⟨h3, h4⟩ := hr1
    go_wp2
    go_ret
    exact ⟨ret_i64 HD.out.symm, rfl⟩

theorem sClocksOk_at (A0 : Option Addr) (n0 c0 : Nat) (d : List Int) (w : World) (h : Rd w w.heap.size (rowCells d) [.slice A0 n0 c0]) (hs : d.length ≤ 1048576) :
    Calls Try.prog 31 #[.slice A0 n0 c0] w fun e w' => e = .returned (.bool (clocksB d)) ∧ Below w.heap.size w w' := by
  obtain ⟨_, _, _, e, hi, _⟩ := h.irow
  injection e with e1 e2 e3
  subst e1 e2 e3
  refine (sClocks_any A0 n0 c0 _ d w hi (by rw [← hi.1]; omega)).mono ?_
  rintro e w' ⟨rfl, rfl⟩
  exact ⟨rfl, Below.refl _ _⟩
theorem sLatest_at (A0 : Option Addr) (n0 c0 : Nat) (d : List Int) (w : World) (h : Rd w w.heap.size (rowCells d) [.slice A0 n0 c0]) (hs : d.length ≤ 1048576) :
    Calls Try.prog 39 #[.slice A0 n0 c0] w fun e w' => e = .returned (.int .i64 (latestM d)) ∧ Below w.heap.size w w' := by
  obtain ⟨_, _, _, e, hi, _⟩ := h.irow
  injection e with e1 e2 e3
  subst e1 e2 e3
  refine (sLatest_any A0 n0 c0 _ d w hi (by rw [← hi.1]; omega)).mono ?_
  rintro e w' ⟨rfl, rfl⟩
  exact ⟨rfl, Below.refl _ _⟩
theorem sApartIn_at (A0 : Option Addr) (n0 c0 : Nat) (d : List Int) (w : World) (h : Rd w w.heap.size (rowCells d) [.slice A0 n0 c0]) (hs : d.length ≤ 1048576) :
    Calls Try.prog 40 #[.slice A0 n0 c0] w fun e w' => e = .returned (.int .i64 (apartM d)) ∧ Below w.heap.size w w' := by
  obtain ⟨_, _, _, e, hi, _⟩ := h.irow
  injection e with e1 e2 e3
  subst e1 e2 e3
  refine (sApartIn_any A0 n0 c0 _ d w hi (by rw [← hi.1]; omega)).mono ?_
  rintro e w' ⟨rfl, rfl⟩
  exact ⟨rfl, Below.refl _ _⟩
theorem sTimeOk_at (x : Int) (w : World) : Calls Try.prog 29 #[.int .i64 x] w fun e w' => e = .returned (.bool (timeB x)) ∧ Below w.heap.size w w' := by
  refine (sTime_any x w).mono ?_
  rintro e w' ⟨rfl, rfl⟩
  exact ⟨rfl, Below.refl _ _⟩
theorem iClocksOk_at (A0 : Option Addr) (n0 c0 : Nat) (d : List Int) (w : World) (h : Rd w w.heap.size (rowCells d) [.slice A0 n0 c0]) (hs : d.length ≤ 1048576) :
    Calls Try.prog 33 #[.slice A0 n0 c0] w fun e w' => e = .returned (.bool (clocksB d)) ∧ Below w.heap.size w w' := by
  obtain ⟨_, _, _, e, hi, _⟩ := h.irow
  injection e with e1 e2 e3
  subst e1 e2 e3
  refine (iClocks_any A0 n0 c0 _ d w hi (by rw [← hi.1]; omega)).mono ?_
  rintro e w' ⟨rfl, rfl⟩
  exact ⟨rfl, Below.refl _ _⟩
theorem iLatest_at (A0 : Option Addr) (n0 c0 : Nat) (d : List Int) (w : World) (h : Rd w w.heap.size (rowCells d) [.slice A0 n0 c0]) (hs : d.length ≤ 1048576) :
    Calls Try.prog 22 #[.slice A0 n0 c0] w fun e w' => e = .returned (.int .i64 (latestM d)) ∧ Below w.heap.size w w' := by
  obtain ⟨_, _, _, e, hi, _⟩ := h.irow
  injection e with e1 e2 e3
  subst e1 e2 e3
  refine (iLatest_any A0 n0 c0 _ d w hi (by rw [← hi.1]; omega)).mono ?_
  rintro e w' ⟨rfl, rfl⟩
  exact ⟨rfl, Below.refl _ _⟩
theorem iApartIn_at (A0 : Option Addr) (n0 c0 : Nat) (d : List Int) (w : World) (h : Rd w w.heap.size (rowCells d) [.slice A0 n0 c0]) (hs : d.length ≤ 1048576) :
    Calls Try.prog 23 #[.slice A0 n0 c0] w fun e w' => e = .returned (.int .i64 (apartM d)) ∧ Below w.heap.size w w' := by
  obtain ⟨_, _, _, e, hi, _⟩ := h.irow
  injection e with e1 e2 e3
  subst e1 e2 e3
  refine (iApartIn_any A0 n0 c0 _ d w hi (by rw [← hi.1]; omega)).mono ?_
  rintro e w' ⟨rfl, rfl⟩
  exact ⟨rfl, Below.refl _ _⟩
theorem iTimeOk_at (x : Int) (w : World) : Calls Try.prog 30 #[.int .i64 x] w fun e w' => e = .returned (.bool (timeB x)) ∧ Below w.heap.size w w' := by
  refine (iTime_any x w).mono ?_
  rintro e w' ⟨rfl, rfl⟩
  exact ⟨rfl, Below.refl _ _⟩

end Go.Proofs.Ythekcaahkokjfaa

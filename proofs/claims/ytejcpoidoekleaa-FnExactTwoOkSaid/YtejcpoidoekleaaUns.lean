/-
  Unsummed, of the program and of its model: the row without its checksum, in new memory, and true; else the empty slice and false.
-/
import Derived.Test.YtejcpoidoekleaaWith
namespace Go.Proofs.Ytejcpoidoekleaa
set_option maxRecDepth 100000
open Go.RowKit

def lastOk (xs : List Int) : Bool := decide (sumOf (xs.take (xs.length - 1)) = xs.getD (xs.length - 1) 0)
def unsummed (xs : List Int) : List Int × Bool :=
  if rowOk xs = true ∧ 0 < xs.length ∧ lastOk xs = true then (xs.take (xs.length - 1), true) else ([], false)

theorem unsummed_yes {xs : List Int} {m : Nat} (h : rowOk xs = true) (hl : xs.length = m + 1) (hs : sumOf (xs.take m) = xs.getD m 0) : unsummed xs = (xs.take m, true) := by
  have e : xs.length - 1 = m := by omega
  unfold unsummed lastOk
  rw [e, if_pos ⟨h, by omega, by simpa using hs⟩]
theorem unsummed_no {xs : List Int} (h : rowOk xs = false) : unsummed xs = ([], false) := by simp [unsummed, h]
theorem unsummed_nil {xs : List Int} (h : xs.length = 0) : unsummed xs = ([], false) := by
  unfold unsummed
  rw [if_neg (by omega)]
theorem unsummed_bad {xs : List Int} {m : Nat} (hl : xs.length = m + 1) (hs : sumOf (xs.take m) ≠ xs.getD m 0) : unsummed xs = ([], false) := by
  have e : xs.length - 1 = m := by omega
  unfold unsummed lastOk
  rw [e, if_neg]
  rintro ⟨_, _, h⟩
  exact hs (by simpa using h)

theorem IRow.take {w : World} {B : Nat} {A : Option Addr} {n k : Nat} {xs : List Int} (h : IRow w B A n xs) (hk : k ≤ n) : IRow w B A k (xs.take k) := by
  have hl := h.1
  refine ⟨by simp; omega, fun h0 => ?_⟩
  obtain ⟨b, off, rfl, hb, hc⟩ := h.2 (by omega)
  refine ⟨b, off, rfl, hb, fun j hj => ?_⟩
  rw [hc j (by omega)]
  simp [List.getD, hj]

/-- A new slice of the numbers and a bool are handed back; what was there is as it was. -/
def MadeRowB (w : World) (r : List Int × Bool) (e : Ending) (w' : World) : Prop :=
  ∃ A n c, e = .returned (.tuple #[.slice A n c, .bool r.2]) ∧ Own w' w.heap.size A n c r.1 ∧ Below w.heap.size w w'

theorem quiet_id {f : FuncId} {args : Array Value} {w : World} {n : Nat} {v : Value} (h : Calls Try.prog f args (w.drewN n) fun e w' => e = .returned v ∧ w.drewN n = w') :
    Calls Try.prog f args (w.drewN n) fun e w'' => e = .returned v ∧ ∃ m, w'' = w.drewN m := h.mono fun _ _ ⟨he, hm⟩ => ⟨he, n, hm.symm⟩

set_option maxHeartbeats 800000 in
theorem sUns_any (A : Option Addr) (n c : Nat) (xs : List Int) (w : World) (h : IRow w w.heap.size A n xs) (hn : n ≤ 1048577) (hcap : n ≤ c) :
    Calls Try.prog 70 #[.slice A n c] w (MadeRowB w (unsummed xs)) := by
  have hl := Lib.hid h.1
  cases hr : rowOk xs
  · have HW := Lib.hid (unsummed_no hr)
    go_enter Try.func70, Try.ntmps70
    go_wp2_with fail
    refine (sRowOk_any A n c _ xs _ h hn).mono ?_
    rintro e w' ⟨rfl, rfl⟩
    rw [hr]
    go_wp2
    go_ret2
    refine ⟨_, 0, 0, by rw [HW.out]; rfl, ?_, (Below.refl _ _).alloc (Nat.le_refl _) _⟩
    rw [HW.out]
    exact own_empty w
  · have HR := Lib.hid hr
    clear hr
    rcases n with _ | m
    · have HW := Lib.hid (unsummed_nil (xs := xs) hl.out)
      go_enter Try.func70, Try.ntmps70
      go_wp2_with fail
      refine (sRowOk_any A 0 c _ xs _ h hn).mono ?_
      rintro e w' ⟨rfl, rfl⟩
      rw [HR.out]
      go_wp2
      go_ret2
      refine ⟨_, 0, 0, by rw [HW.out]; rfl, ?_, (Below.refl _ _).alloc (Nat.le_refl _) _⟩
      rw [HW.out]
      exact own_empty w
    · obtain ⟨b, off, rfl, hb, hc⟩ := h.2 (by omega)
      have hcell := hc m (by omega)
      obtain ⟨x, hx⟩ : ∃ x, x = xs.getD m 0 := ⟨_, rfl⟩
      rw [← hx] at hcell
      have HX := Lib.hid hx
      clear hx hc
      have hne : (((m : Int) + 1) == 0) = false := by simp; omega
      have i1 : (m : Int) ≤ (c : Int) := by omega
      have i2 : (0 : Int) ≤ (m : Int) := by omega
      go_enter Try.func70, Try.ntmps70
      go_wp2_with fail
      refine (sRowOk_any _ (m + 1) c _ xs _ h hn).mono ?_
      rintro e w' ⟨rfl, rfl⟩
      rw [HR.out]
      go_wp2_with fail
      refine (sCopy_any _ m c (xs.take m) _ (h.take (by omega)) (by omega)).mono ?_
      rintro e w1 ⟨A1, n1, c1, rfl, o1, b1⟩
      obtain rfl : m = n1 := by rw [← o1.len]; simp; have := hl.out; omega
      have hcell1 := (b1.cell (p := ⟨b, off + m, none⟩) hb).trans hcell
      have hs := sSum_any A1 m c1 w1.heap.size (xs.take m)
      have HS := Lib.hid hs
      clear hs
      by_cases hsx : sumOf (xs.take m) = x
      · have HU := Lib.hid (unsummed_yes (xs := xs) (m := m) HR.out hl.out (by rw [hsx, HX.out]))
        have HE := Lib.hid hsx
        clear hsx
        go_wp2_with fail
        go_quiet ((go_at_call 101; exact quiet_id ((HS.out _ (o1.irow.drewN _) (by omega)).mono (fun _ _ p => ⟨p.1.trans (by rw [HE.out]), p.2⟩))))
        go_wp2
        go_ret2
        refine ⟨A1, m, c1, by rw [HU.out]; rfl, ?_, below_drewN b1 _⟩
        rw [HU.out]
        exact o1
      · have HU := Lib.hid (unsummed_bad (xs := xs) (m := m) hl.out (by rw [← HX.out]; exact hsx))
        generalize hy : sumOf (xs.take m) = y at hsx
        have HE := Lib.hid hy
        clear hy
        have hne2 : (y != x) = true := by simpa using hsx
        clear hsx
        go_wp2_with fail
        go_quiet ((go_at_call 101; exact quiet_id ((HS.out _ (o1.irow.drewN _) (by omega)).mono (fun _ _ p => ⟨p.1.trans (by rw [HE.out]), p.2⟩))))
        go_wp2
        go_ret2
        refine ⟨_, 0, 0, by rw [HU.out]; rfl, ?_, (below_drewN b1 _).alloc (by have := b1.size; exact this) _⟩
        rw [HU.out]
        exact (own_empty _).up b1.size

set_option maxHeartbeats 800000 in
theorem iUns_any (A : Option Addr) (n c : Nat) (xs : List Int) (w : World) (h : IRow w w.heap.size A n xs) (hn : n ≤ 1048577) (hcap : n ≤ c) :
    Calls Try.prog 60 #[.slice A n c] w (MadeRowB w (unsummed xs)) := by
  have hl := Lib.hid h.1
  rcases n with _ | m
  · have HW := Lib.hid (unsummed_nil (xs := xs) hl.out)
    clear h
    go_enter Try.func60, Try.ntmps60
    go_wp2
    go_ret2
    refine ⟨_, 0, 0, by rw [HW.out]; rfl, ?_, Below.refl _ _⟩
    rw [HW.out]
    exact own_nil _ _
  · have hne : (((m : Int) + 1) == 0) = false := by simp; omega
    cases hr : rowOk xs
    · have HW := Lib.hid (unsummed_no hr)
      go_enter Try.func60, Try.ntmps60
      go_wp2_with fail
      refine (iRowOk_any A (m + 1) c _ xs _ h hn).mono ?_
      rintro e w' ⟨rfl, rfl⟩
      rw [hr]
      go_wp2
      go_ret2
      refine ⟨_, 0, 0, by rw [HW.out]; rfl, ?_, Below.refl _ _⟩
      rw [HW.out]
      exact own_nil _ _
    · have HR := Lib.hid hr
      clear hr
      obtain ⟨b, off, rfl, hb, hc⟩ := h.2 (by omega)
      have hcell := hc m (by omega)
      obtain ⟨x, hx⟩ : ∃ x, x = xs.getD m 0 := ⟨_, rfl⟩
      rw [← hx] at hcell
      have HX := Lib.hid hx
      clear hx hc
      have i1 : (m : Int) ≤ (c : Int) := by omega
      have i2 : (0 : Int) ≤ (m : Int) := by omega
      have i3 : (m : Int) < (m : Int) + 1 := by omega
      have hs := iSum_any (some ⟨b, off, none⟩) m c w.heap.size (xs.take m)
      have HS := Lib.hid hs
      clear hs
      go_enter Try.func60, Try.ntmps60
      go_wp2_with fail
      refine (iRowOk_any _ (m + 1) c _ xs _ h hn).mono ?_
      rintro e w' ⟨rfl, rfl⟩
      rw [HR.out]
      by_cases hsx : sumOf (xs.take m) = x
      · have HU := Lib.hid (unsummed_yes (xs := xs) (m := m) HR.out hl.out (by rw [hsx, HX.out]))
        have HE := Lib.hid hsx
        clear hsx
        go_wp2_with fail
        go_quiet ((go_at_call 87; exact quiet_id ((HS.out _ ((h.take (by omega)).drewN _) (by omega)).mono (fun _ _ p => ⟨p.1.trans (by rw [HE.out]), p.2⟩))))
        go_wp2_with fail
        refine (iCopy_any _ m c (xs.take m) _ ((h.take (by omega)).drewN _) (by omega)).mono ?_
        rintro e w1 ⟨A1, n1, c1, rfl, o1, b1⟩
        obtain rfl : m = n1 := by rw [← o1.len]; simp; have := hl.out; omega
        go_wp2
        go_ret2
        refine ⟨A1, m, c1, by rw [HU.out]; rfl, ?_, (below_drewN (Below.refl _ _) _).trans b1⟩
        rw [HU.out]
        exact o1
      · have HU := Lib.hid (unsummed_bad (xs := xs) (m := m) hl.out (by rw [← HX.out]; exact hsx))
        generalize hy : sumOf (xs.take m) = y at hsx
        have HE := Lib.hid hy
        clear hy
        have hne2 : (y != x) = true := by simpa using hsx
        clear hsx
        go_wp2_with fail
        go_quiet ((go_at_call 87; exact quiet_id ((HS.out _ ((h.take (by omega)).drewN _) (by omega)).mono (fun _ _ p => ⟨p.1.trans (by rw [HE.out]), p.2⟩))))
        go_wp2
        go_ret2
        refine ⟨_, 0, 0, by rw [HU.out]; rfl, ?_, below_drewN (Below.refl _ _) _⟩
        rw [HU.out]
        exact own_nil _ _

end Go.Proofs.Ytejcpoidoekleaa

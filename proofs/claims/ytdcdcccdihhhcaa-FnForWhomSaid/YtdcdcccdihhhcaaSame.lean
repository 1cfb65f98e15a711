/-
  SameRow, of the program and of its model: two slices of int64 have equal lengths and elements.
-/
import Derived.Test.YtdcdcccdihhhcaaKA
namespace Go.Proofs.Ytdcdcccdihhhcaa
set_option maxRecDepth 100000
open Go.RowKit

def sameI (xs ys : List Int) : Bool := decide (xs = ys)

theorem sameI_len {xs ys : List Int} (h : xs.length ≠ ys.length) : sameI xs ys = false := by
  simp only [sameI, decide_eq_false_iff_not]
  intro e; exact h (by rw [e])
theorem sameI_bad {xs ys : List Int} {k : Nat} (h : xs.getD k 0 ≠ ys.getD k 0) : sameI xs ys = false := by
  simp only [sameI, decide_eq_false_iff_not]
  intro e; exact h (by rw [e])

/-- The first k numbers agree. -/
def EqTo (xs ys : List Int) (k : Nat) : Prop := ∀ j, j < k → xs.getD j 0 = ys.getD j 0
theorem EqTo.zero (xs ys : List Int) : EqTo xs ys 0 := fun j hj => absurd hj (by omega)
theorem EqTo.succ {xs ys : List Int} {k : Nat} (h : EqTo xs ys k) (hk : xs.getD k 0 = ys.getD k 0) : EqTo xs ys (k + 1) := by
  intro j hj
  by_cases e : j = k
  · subst e; exact hk
  · exact h j (by omega)
theorem sameI_end {xs ys : List Int} (hl : xs.length = ys.length) (h : EqTo xs ys xs.length) : sameI xs ys = true := by
  simp only [sameI, decide_eq_true_eq]
  apply List.ext_getElem hl
  intro j h1 h2
  have := h j h1
  simpa [List.getD, List.getElem?_eq_getElem h1, List.getElem?_eq_getElem h2] using this

set_option maxHeartbeats 400000 in
theorem sSame_any (A A' : Option Addr) (n m c c' B B' : Nat) (xs ys : List Int) (w : World) (h : IRow w B A n xs) (h' : IRow w B' A' m ys) (hn : n ≤ 1048577) (hm : m ≤ 1048577) :
    Calls Try.prog 108 #[.slice A n c, .slice A' m c'] w fun e w' => e = .returned (.bool (sameI xs ys)) ∧ Drew w w' := by
  have hl := Lib.hid h.1
  have hl' := Lib.hid h'.1
  by_cases hnm : n = m
  · subst hnm
    go_enter Try.func108, Try.ntmps108
    go_wp2
    go_loopw [5] (fun i wr => ∃ k : Nat, k ≤ n ∧ i = .int .i64 k ∧ EqTo xs ys k ∧ Drew w wr) (fun i _ => n - (intOf i).toNat)
    case atStart => exact ⟨0, Nat.zero_le _, rfl, EqTo.zero _ _, Drew.refl _⟩
    case round =>
      obtain ⟨k, hk, rfl, he, hd⟩ := hrel
      by_cases hlt : k < n
      · obtain ⟨b, off, rfl, hb, hc⟩ := h.2 (by omega)
        obtain ⟨b', off', rfl, hb', hc'⟩ := h'.2 (by omega)
        have hcell := (hd.cell ⟨b, off + k, none⟩).trans (hc k hlt)
        have hcell' := (hd.cell ⟨b', off' + k, none⟩).trans (hc' k hlt)
        obtain ⟨x, hx⟩ : ∃ x, x = xs.getD k 0 := ⟨_, rfl⟩
        obtain ⟨y, hy⟩ : ∃ y, y = ys.getD k 0 := ⟨_, rfl⟩
        rw [← hx] at hcell
        rw [← hy] at hcell'
        have HX := Lib.hid hx
        have HY := Lib.hid hy
        have i0 : (0 : Int) ≤ (k : Int) := by omega
        have i1 : (k : Int) < (n : Int) := by omega
        clear hc hc' h h' hx hy
        by_cases hxy : x = y
        · have HE := Lib.hid (he.succ (by rw [← HX.out, ← HY.out]; exact hxy))
          subst hxy
          go_wp2
          go_quiet (fail)
          go_wp2
          go_roundw
          case rel => exact ⟨k + 1, by omega, by go_num, HE.out, hd.more _⟩
          case measure => simp [intOf]; omega
        · have HE := Lib.hid (sameI_bad (xs := xs) (ys := ys) (k := k) (by rw [← HX.out, ← HY.out]; exact hxy))
          have hne : (x != y) = true := by simpa using hxy
          clear hxy
          go_wp2
          go_quiet (fail)
          go_wp2
          go_ret
          exact ⟨ret_bool HE.out.symm, hd.more _⟩
      · go_wp2
        go_ret
        exact ⟨ret_bool (sameI_end (by rw [hl.out, hl'.out]) (by rw [hl.out]; intro j hj; exact he j (by omega))).symm, hd⟩
  · have HE := Lib.hid (sameI_len (xs := xs) (ys := ys) (by rw [hl.out, hl'.out]; exact hnm))
    have hne : ((n : Int) != (m : Int)) = true := by simp; omega
    clear h h'
    go_enter Try.func108, Try.ntmps108
    go_wp2
    go_ret
    exact ⟨ret_bool HE.out.symm, Drew.refl _⟩

set_option maxHeartbeats 400000 in
theorem iSame_any (A A' : Option Addr) (n m c c' B B' : Nat) (xs ys : List Int) (w : World) (h : IRow w B A n xs) (h' : IRow w B' A' m ys) (hn : n ≤ 1048577) (hm : m ≤ 1048577) :
    Calls Try.prog 101 #[.slice A n c, .slice A' m c'] w fun e w' => e = .returned (.bool (sameI xs ys)) ∧ w = w' := by
  have hl := Lib.hid h.1
  have hl' := Lib.hid h'.1
  by_cases hnm : n = m
  · subst hnm
    go_enter Try.func101, Try.ntmps101
    go_wp2
    go_loop [14] (fun i => ∃ k : Nat, k ≤ n ∧ i = .int .i64 k ∧ EqTo xs ys k) (fun i => n - (intOf i).toNat)
    case atStart => exact ⟨0, Nat.zero_le _, rfl, EqTo.zero _ _⟩
    case round =>
      obtain ⟨k, hk, rfl, he⟩ := hrel
      by_cases hlt : k < n
      · obtain ⟨b, off, rfl, hb, hc⟩ := h.2 (by omega)
        obtain ⟨b', off', rfl, hb', hc'⟩ := h'.2 (by omega)
        have hcell := hc k hlt
        have hcell' := hc' k hlt
        obtain ⟨x, hx⟩ : ∃ x, x = xs.getD k 0 := ⟨_, rfl⟩
        obtain ⟨y, hy⟩ : ∃ y, y = ys.getD k 0 := ⟨_, rfl⟩
        rw [← hx] at hcell
        rw [← hy] at hcell'
        have HX := Lib.hid hx
        have HY := Lib.hid hy
        clear hc hc' h h' hx hy
        by_cases hxy : x = y
        · have HE := Lib.hid (he.succ (by rw [← HX.out, ← HY.out]; exact hxy))
          subst hxy
          go_wp2
          go_round
          case rel => exact ⟨k + 1, by omega, by go_num, HE.out⟩
          case measure => simp [intOf]; omega
        · have HE := Lib.hid (sameI_bad (xs := xs) (ys := ys) (k := k) (by rw [← HX.out, ← HY.out]; exact hxy))
          have hne : (x != y) = true := by simpa using hxy
          clear hxy
          go_wp2
          go_ret
          exact ⟨ret_bool HE.out.symm, rfl⟩
      · go_wp2
        go_ret
        exact ⟨ret_bool (sameI_end (by rw [hl.out, hl'.out]) (by rw [hl.out]; intro j hj; exact he j (by omega))).symm, rfl⟩
  · have HE := Lib.hid (sameI_len (xs := xs) (ys := ys) (by rw [hl.out, hl'.out]; exact hnm))
    have hne : ((n : Int) != (m : Int)) = true := by simp; omega
    clear h h'
    go_enter Try.func101, Try.ntmps101
    go_wp2
    go_ret
    exact ⟨ret_bool HE.out.symm, rfl⟩

end Go.Proofs.Ytdcdcccdihhhcaa

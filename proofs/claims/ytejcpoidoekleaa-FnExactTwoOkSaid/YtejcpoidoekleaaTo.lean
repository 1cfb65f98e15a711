/-
  The copy of a slice of int64 that the exact laws make: it reads as the slice, in a new block.
-/
import Derived.Test.YtejcpoidoekleaaBase
namespace Go.Proofs.Ytejcpoidoekleaa
set_option maxRecDepth 100000
open Go.RowKit

theorem to_step (xs : List Int) (n k : Nat) (hl : xs.length = n) (hk : k < n) :
    (ivals (xs.take k ++ List.replicate (n - k) 0)).set k (.int .i64 (xs.getD k 0)) = ivals (xs.take (k + 1) ++ List.replicate (n - (k + 1)) 0) := by
  apply List.ext_getElem?
  intro j
  simp only [ivals, List.getElem?_set, List.getElem?_map, List.getElem?_append, List.length_map, List.length_append, List.length_take, List.length_replicate, List.getElem?_take, List.getElem?_replicate]
  have e1 : min k xs.length = k := by omega
  have e2 : min (k + 1) xs.length = k + 1 := by omega
  rw [e1, e2]
  by_cases h : k = j
  · subst h
    rw [if_pos rfl, if_pos (by omega), if_pos (by omega), if_pos (by omega)]
    simp [List.getD, List.getElem?_eq_getElem (show k < xs.length by omega)]
  · rw [if_neg h]
    by_cases h2 : j < k
    · rw [if_pos h2, if_pos h2, if_pos (by omega), if_pos (by omega)]
    · have g1 : ¬ j < k + 1 := by omega
      by_cases h3 : j < n
      · have g2 : j - k < n - k := by omega
        have g3 : j - (k + 1) < n - (k + 1) := by omega
        simp [h2, g1, g2, g3]
      · have g2 : ¬ j - k < n - k := by omega
        have g3 : ¬ j - (k + 1) < n - (k + 1) := by omega
        simp [h2, g1, g2, g3]

set_option maxHeartbeats 400000 in
theorem to_any (A : Option Addr) (n c : Nat) (xs : List Int) (w : World) (h : IRow w w.heap.size A n xs) (hn : n ≤ 1048576) :
    Calls Try.prog 37 #[.slice A n c] w fun e w' => e = .returned (.slice (some ⟨w.heap.size, 0, none⟩) n n) ∧ Own w' w.heap.size (some ⟨w.heap.size, 0, none⟩) n n xs ∧ Below w.heap.size w w' := by
  have hmk := run_make_row' (P := Try.prog) 35 2 (.int .i64 0) 8 Try.underlying35 info64 rfl .i64 .i64 n (by omega) (by omega)
  have hl := Lib.hid h.1
  go_enter Try.func37, Try.ntmps37
  go_wp2
  go_loopw [4] (fun i wr => ∃ k : Nat, k ≤ n ∧ i = .int .i64 k ∧ Own wr w.heap.size (some ⟨w.heap.size, 0, none⟩) n n (xs.take k ++ List.replicate (n - k) 0) ∧ Below w.heap.size w wr) (fun i _ => n - (intOf i).toNat)
  case atStart =>
    refine ⟨0, Nat.zero_le _, rfl, ?_, (Below.refl _ _).alloc (Nat.le_refl _) _⟩
    have := World.ownsRow_lit (base := w.heap.size) (e := 2) (size := 1) w (madeCells #[.int .i64 0] n) n (Nat.le_refl _) (by simp only [maxLen]; omega) (by rw [size_madeCells]; omega)
    rw [toList_madeCells_one] at this
    simpa [Own, ivals] using this
  case round =>
    obtain ⟨k, hk, rfl, hown, hbel⟩ := hrel
    clear hmk
    by_cases hlt : k < n
    · obtain ⟨b, off, rfl, hb, hc⟩ := h.2 (by omega)
      have hcell := (hbel.cell (p := ⟨b, off + k, none⟩) hb).trans (hc k hlt)
      obtain ⟨x, hx⟩ : ∃ x, x = xs.getD k 0 := ⟨_, rfl⟩
      rw [← hx] at hcell
      have HX := Lib.hid hx
      clear hx
      have hold : wr.cell? ⟨w.heap.size, k, none⟩ = some (.int .i64 0) := by
        rw [World.ownsRow.cellAt hown k (by omega), ivals_get, List.getElem?_append_right (by simp; omega), List.getElem?_replicate, if_pos (by have := hl.out; simp; omega)]
        rfl
      have hfr : wr.frozen? ⟨w.heap.size, k, none⟩ = false := World.ownsRow.frozenAt hown k
      have R := World.ownsRow.stored hown k (.int .i64 x)
      have R1 := Lib.hid (p := Own (wr.setCell ⟨w.heap.size, k, none⟩ (.int .i64 x)) w.heap.size (some ⟨w.heap.size, 0, none⟩) n n (xs.take (k + 1) ++ List.replicate (n - (k + 1)) 0)) (by
        have h1 := R.1
        rw [HX.out, to_step xs n k hl.out hlt] at h1
        rw [HX.out]
        exact h1)
      have R2 := Lib.hid (hbel.setCell (p := ⟨w.heap.size, k, none⟩) (Nat.le_refl _) (.int .i64 x))
      clear R hc h hown hbel
      go_wp2
      go_roundw
      case rel => exact ⟨k + 1, by omega, by go_num, R1.out, R2.out⟩
      case measure => simp [intOf]; omega
    · go_wp2
      go_ret
      have hkn : k = n := by omega
      subst hkn
      refine ⟨rfl, ?_, hbel⟩
      have := hown
      rw [Nat.sub_self, List.replicate_zero, List.append_nil, List.take_of_length_le (by have := hl.out; omega)] at this
      exact this

end Go.Proofs.Ytejcpoidoekleaa

/-
  WithSum, of the program and of its model: a row of at most 47 numbers followed by its checksum, in new memory; else the empty slice.
-/
import Derived.Test.YtejcpoidoekleaaCopy
import Derived.Test.YtejcpoidoekleaaSum
namespace Go.Proofs.Ytejcpoidoekleaa
set_option maxRecDepth 100000
open Go.RowKit

def withSum (xs : List Int) : List Int := if rowOk xs = true ∧ xs.length < 48 then xs ++ [sumOf xs] else []

theorem withSum_yes {xs : List Int} (h : rowOk xs = true) (hl : xs.length < 48) : withSum xs = xs ++ [sumOf xs] := by simp [withSum, h, hl]
theorem withSum_no {xs : List Int} (h : rowOk xs = false) : withSum xs = [] := by simp [withSum, h]
theorem withSum_long {xs : List Int} (hl : 48 ≤ xs.length) : withSum xs = [] := by
  unfold withSum
  rw [if_neg (by omega)]

theorem own_nil (w : World) (base : Nat) : Own w base none 0 0 [] := World.ownsRow_nil _ _ _ _

set_option maxHeartbeats 800000 in
theorem sWith_any (A : Option Addr) (n c : Nat) (xs : List Int) (w : World) (h : IRow w w.heap.size A n xs) (hn : n ≤ 1048577) :
    Calls Try.prog 78 #[.slice A n c] w (MadeRow w (withSum xs)) := by
  have hl := Lib.hid h.1
  cases hr : rowOk xs
  · have HW := Lib.hid (withSum_no hr)
    go_enter Try.func78, Try.ntmps78
    go_wp2_with fail
    refine (sRowOk_any A n c _ xs _ h hn).mono ?_
    rintro e w' ⟨rfl, rfl⟩
    rw [hr]
    go_wp2
    go_ret
    refine ⟨_, 0, 0, rfl, ?_, (Below.refl _ _).alloc (Nat.le_refl _) _⟩
    rw [HW.out]
    exact own_empty w
  · have HR := Lib.hid hr
    clear hr
    by_cases h48 : 48 ≤ n
    · have HW := Lib.hid (withSum_long (xs := xs) (by rw [hl.out]; exact h48))
      go_enter Try.func78, Try.ntmps78
      go_wp2_with fail
      refine (sRowOk_any A n c _ xs _ h hn).mono ?_
      rintro e w' ⟨rfl, rfl⟩
      rw [HR.out]
      go_wp2
      go_ret
      refine ⟨_, 0, 0, rfl, ?_, (Below.refl _ _).alloc (Nat.le_refl _) _⟩
      rw [HW.out]
      exact own_empty w
    · have HW := Lib.hid (withSum_yes HR.out (by rw [hl.out]; omega))
      go_enter Try.func78, Try.ntmps78
      go_wp2_with fail
      refine (sRowOk_any A n c _ xs _ h hn).mono ?_
      rintro e w' ⟨rfl, rfl⟩
      rw [HR.out]
      go_wp2_with fail
      refine (sCopy_any A n c xs _ h hn).mono ?_
      rintro e w1 ⟨A1, n1, c1, rfl, o1, b1⟩
      obtain rfl : n = n1 := by rw [← o1.len, ← hl.out]
      have z1 := b1.size
      go_wp2_with fail
      refine (sSum_any A n c _ xs _ (h.below b1) hn).mono ?_
      rintro e w1' ⟨rfl, rfl⟩
      generalize sumOf xs = s at HW
      have b2 : Below w1.heap.size w1 (w1.alloc (.cells #[.int .i64 s] 2)) := (Below.refl _ _).alloc (Nat.le_refl _) _
      have o2 := o1.below b2
      have r2 := (own_one w1 s).irow
      go_wp2_with (first
        | (at_builtin
           refine wpList_append_ints rfl (.tmp 13) (.tmp 16) rfl rfl o2 rfl r2 (Nat.le_trans z1 b2.size) (by omega) ?_
           intro A3 c3 w3 o3 g3 e3))
      go_ret
      refine ⟨A3, n + 1, c3, rfl, by rw [HW.out]; exact o3, ((b1.trans (b2.mono z1)).grown g3 (Nat.le_trans z1 b2.size) fun k hk => ?_)⟩
      exact (o2.ge k hk).1

set_option maxHeartbeats 800000 in
theorem iWith_any (A : Option Addr) (n c : Nat) (xs : List Int) (w : World) (h : IRow w w.heap.size A n xs) (hn : n ≤ 1048577) :
    Calls Try.prog 49 #[.slice A n c] w (MadeRow w (withSum xs)) := by
  have hl := Lib.hid h.1
  by_cases h48 : 48 ≤ n
  · have HW := Lib.hid (withSum_long (xs := xs) (by rw [hl.out]; exact h48))
    clear h
    go_enter Try.func49, Try.ntmps49
    go_wp2
    go_ret
    refine ⟨_, 0, 0, rfl, ?_, Below.refl _ _⟩
    rw [HW.out]
    exact own_nil _ _
  · cases hr : rowOk xs
    · have HW := Lib.hid (withSum_no hr)
      go_enter Try.func49, Try.ntmps49
      go_wp2_with fail
      refine (iRowOk_any A n c _ xs _ h hn).mono ?_
      rintro e w' ⟨rfl, rfl⟩
      rw [hr]
      go_wp2
      go_ret
      refine ⟨_, 0, 0, rfl, ?_, Below.refl _ _⟩
      rw [HW.out]
      exact own_nil _ _
    · have HW := Lib.hid (withSum_yes hr (by rw [hl.out]; omega))
      have HR := Lib.hid hr
      clear hr
      have hmk := run_make_row' (P := Try.prog) 35 2 (.int .i64 0) 8 Try.underlying35 info64 rfl .i64 .i64 (n + 1) (by omega) (by omega)
      rw [show (((n + 1 : Nat)) : Int) = (n : Int) + 1 from by omega] at hmk
      have ho : Own (w.alloc (.cells (madeCells #[.int .i64 0] (n + 1)) 2)) w.heap.size (some ⟨w.heap.size, 0, none⟩) (n + 1) (n + 1) (List.replicate (n + 1) 0) := by
        have := World.ownsRow_lit (base := w.heap.size) (e := 2) (size := 1) w (madeCells #[.int .i64 0] (n + 1)) (n + 1) (Nat.le_refl _) (by simp only [maxLen]; omega) (by rw [size_madeCells]; omega)
        rw [toList_madeCells_one] at this
        simpa [Own, ivals] using this
      have hb : Below w.heap.size w (w.alloc (.cells (madeCells #[.int .i64 0] (n + 1)) 2)) := (Below.refl _ _).alloc (Nat.le_refl _) _
      have hr := h.below hb
      go_enter Try.func49, Try.ntmps49
      go_wp2_with fail
      refine (iRowOk_any A n c _ xs _ h hn).mono ?_
      rintro e w' ⟨rfl, rfl⟩
      rw [HR.out]
      go_wp2_with (with_reducible refine wpList_copy_ints rfl (.tmp 16) (.tmp 17) rfl rfl ho rfl hr (by omega) (by simp only [maxLen]; omega) hb ?_; intro w1 o1 b1)
      refine (iSum_any A n c _ xs _ (h.below b1) hn).mono ?_
      rintro e w1' ⟨rfl, rfl⟩
      generalize sumOf xs = s at HW
      have hold : w1.cell? ⟨w.heap.size, n, none⟩ = some (.int .i64 0) := by
        rw [World.ownsRow.cellAt o1 n (by omega), ivals_get, List.getElem?_append_right (by have := hl.out; omega), hl.out, Nat.sub_self]
        simp
      have hfr : w1.frozen? ⟨w.heap.size, n, none⟩ = false := World.ownsRow.frozenAt o1 n
      have R := Lib.hid (World.ownsRow.stored o1 n (.int .i64 s)).1
      have R2 := Lib.hid (b1.setCell (p := ⟨w.heap.size, n, none⟩) (Nat.le_refl _) (.int .i64 s))
      clear hmk ho hb hr o1 b1 h
      have i0 : (0 : Int) ≤ (n : Int) := by omega
      go_wp2
      go_ret
      refine ⟨_, n + 1, n + 1, rfl, ?_, R2.out⟩
      rw [HW.out]
      have h1 := R.out
      have h2 : (ivals (xs ++ (List.replicate (n + 1) 0).drop n)).set n (.int .i64 s) = ivals (xs ++ [s]) := by
        have e1 : (List.replicate (n + 1) (0 : Int)).drop n = [0] := by simp
        rw [e1]
        have e2 : ivals (xs ++ [0]) = ivals xs ++ [.int .i64 0] := by simp [ivals]
        rw [e2, List.set_append_right _ _ (by rw [ivals_length, hl.out]; omega), ivals_length, hl.out, Nat.sub_self]
        simp [ivals]
      rw [h2] at h1
      exact h1

end Go.Proofs.Ytejcpoidoekleaa

/-
  Every second number of a list in new memory: of the model (at most sixty) and of the program.
-/
import Derived.Test.YtejcpoidoekleaaTwoM
namespace Go.Proofs.Ytejcpoidoekleaa
set_option maxRecDepth 100000
open Go.RowKit

set_option maxHeartbeats 3200000 in
theorem sFates_any (E : Option Addr) (o co : Nat) (fs : List Int) (k : Nat) (w : World) (h : IRow w w.heap.size E o fs) (ho : o ≤ 1048577) (hk : k ≤ 1) :
    Calls Try.prog 83 #[.slice E o co, .int .i64 (k : Int)] w (MadeRow w ((second fs k).take 60)) := by
  have hl := Lib.hid h.1
  have O0 := Lib.hid (own_empty w)
  have B0 := Lib.hid ((Below.refl _ w).alloc (Nat.le_refl _) (.cells #[] 2))
  go_enter Try.func83, Try.ntmps83
  go_wp2
  go_loopw [5, 6] (fun r i wr => ∃ (j m c : Nat) (A : Option Addr), m = k + 2 * j ∧ m ≤ o + 1 ∧ j ≤ 60 ∧ i = .int .i64 (m : Int) ∧ r = .slice A j c ∧ Own wr w.heap.size A j c ((second fs k).take j) ∧ Below w.heap.size w wr) (fun _ i _ => (o + 2 - (intOf i).toNat))
  case atStart => exact ⟨0, k, 0, some ⟨w.heap.size, 0, none⟩, by omega, by omega, by omega, rfl, rfl, O0.out, B0.out⟩
  case round =>
    obtain ⟨j, m, c, A, hm, hmo, hj, rfl, rfl, hown, hbel⟩ := hrel
    have hjo : j ≤ 1048578 := by omega
    have HM := Lib.hid hm
    have z := hbel.size
    clear O0 B0 hm
    by_cases hlt : m < o
    case neg =>
      have i1 : ¬ ((m : Int) < (o : Int)) := by omega
      have HE := Lib.hid (show (second fs k).take j = (second fs k).take 60 by
        rw [second_all fs k j (by have := hl.out; have := HM.out; omega)]
        exact (List.take_of_length_le (by rw [second_len]; have := hl.out; have := HM.out; omega)).symm)
      clear h
      go_wp2
      go_ret
      refine ⟨A, j, c, rfl, ?_, hbel⟩
      rw [← HE.out]
      exact hown
    by_cases h60 : j < 60
    case neg =>
      have i1 : (m : Int) < (o : Int) := by omega
      have i2 : ¬ ((j : Int) < 60) := by omega
      have HE := Lib.hid (show j = 60 by omega)
      clear h
      go_wp2
      go_ret
      refine ⟨A, j, c, rfl, ?_, hbel⟩
      rw [← HE.out]
      exact hown
    have i1 : (m : Int) < (o : Int) := by omega
    have i2 : (j : Int) < 60 := by omega
    have i0 : (0 : Int) ≤ (m : Int) := by omega
    obtain ⟨b, off, rfl, hb, hc⟩ := h.2 (by omega)
    have ce := (hbel.cell (p := ⟨b, off + m, none⟩) hb).trans (hc m hlt)
    have HX := Lib.hid (show (second fs k).take (j + 1) = (second fs k).take j ++ [fs.getD m 0] by
      have := HM.out
      subst this
      exact second_take fs k j (by have := hl.out; omega))
    generalize fs.getD m 0 = y at *
    have o2 := hown.below ((Below.refl _ wr).alloc (Nat.le_refl _) (.cells #[.int .i64 y] 2))
    have r2 := (own_one wr y).irow
    have zb : w.heap.size ≤ (wr.alloc (.cells #[.int .i64 y] 2)).heap.size := by simp; omega
    have HB := Lib.hid (hbel.alloc hbel.size (.cells #[.int .i64 y] 2))
    clear hc h hown hbel
    go_wp2_with (first
      | (at_builtin
         refine wpList_append_ints rfl (.tmp 20) (.tmp 25) rfl rfl o2 rfl r2 zb (by omega) ?_
         intro A3 c3 w3 o3 g3 e3))
    have R := Lib.hid (HB.out.grown g3 HB.out.size (fun p hp => (o2.ge p hp).1))
    go_roundw
    case rel => exact ⟨j + 1, m + 2, c3, A3, by have := HM.out; omega, by omega, by omega, by go_num, rfl, by rw [HX.out]; exact o3, R.out⟩
    case measure => simp [intOf]; omega

set_option maxHeartbeats 3200000 in
theorem iFates_any (E : Option Addr) (o co : Nat) (fs : List Int) (k : Nat) (w : World) (h : IRow w w.heap.size E o fs) (ho : o ≤ 1048577) (hk : k ≤ 1) :
    Calls Try.prog 66 #[.slice E o co, .int .i64 (k : Int)] w (MadeRow w (second fs k)) := by
  have hl := Lib.hid h.1
  have O0 := Lib.hid (own_nil w w.heap.size)
  have B0 := Lib.hid (Below.refl w.heap.size w)
  go_enter Try.func66, Try.ntmps66
  go_wp2
  go_loopw [5, 6] (fun r i wr => ∃ (j m c : Nat) (A : Option Addr), m = k + 2 * j ∧ m ≤ o + 1 ∧ i = .int .i64 (m : Int) ∧ r = .slice A j c ∧ Own wr w.heap.size A j c ((second fs k).take j) ∧ Below w.heap.size w wr) (fun _ i _ => (o + 2 - (intOf i).toNat))
  case atStart => exact ⟨0, k, 0, none, by omega, by omega, rfl, rfl, O0.out, B0.out⟩
  case round =>
    obtain ⟨j, m, c, A, hm, hmo, rfl, rfl, hown, hbel⟩ := hrel
    have hjo : j ≤ 1048578 := by omega
    have HM := Lib.hid hm
    have z := hbel.size
    clear O0 B0 hm
    by_cases hlt : m < o
    case neg =>
      have i1 : ¬ ((m : Int) < (o : Int)) := by omega
      have HE := Lib.hid (show (second fs k).take j = second fs k by
        rw [second_all fs k j (by have := hl.out; have := HM.out; omega)])
      clear h
      go_wp2
      go_ret
      refine ⟨A, j, c, rfl, ?_, hbel⟩
      rw [← HE.out]
      exact hown
    have i1 : (m : Int) < (o : Int) := by omega
    have i0 : (0 : Int) ≤ (m : Int) := by omega
    obtain ⟨b, off, rfl, hb, hc⟩ := h.2 (by omega)
    have ce := (hbel.cell (p := ⟨b, off + m, none⟩) hb).trans (hc m hlt)
    have HX := Lib.hid (show (second fs k).take (j + 1) = (second fs k).take j ++ [fs.getD m 0] by
      have := HM.out
      subst this
      exact second_take fs k j (by have := hl.out; omega))
    generalize fs.getD m 0 = y at *
    have o2 := hown.below ((Below.refl _ wr).alloc (Nat.le_refl _) (.cells #[.int .i64 y] 2))
    have r2 := (own_one wr y).irow
    have zb : w.heap.size ≤ (wr.alloc (.cells #[.int .i64 y] 2)).heap.size := by simp; omega
    have HB := Lib.hid (hbel.alloc hbel.size (.cells #[.int .i64 y] 2))
    clear hc h hown hbel
    go_wp2_with (first
      | (at_builtin
         refine wpList_append_ints rfl (.tmp 14) (.tmp 19) rfl rfl o2 rfl r2 zb (by omega) ?_
         intro A3 c3 w3 o3 g3 e3))
    have R := Lib.hid (HB.out.grown g3 HB.out.size (fun p hp => (o2.ge p hp).1))
    go_roundw
    case rel => exact ⟨j + 1, m + 2, c3, A3, by have := HM.out; omega, by omega, by go_num, rfl, by rw [HX.out]; exact o3, R.out⟩
    case measure => simp [intOf]; omega

end Go.Proofs.Ytejcpoidoekleaa

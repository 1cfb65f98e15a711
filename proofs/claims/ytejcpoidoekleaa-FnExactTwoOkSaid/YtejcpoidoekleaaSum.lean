/-
  SumOf, of the program and of its model: the checksum of a row, or -1 where the numbers are no row.
-/
import Derived.Test.YtejcpoidoekleaaRowOk
namespace Go.Proofs.Ytejcpoidoekleaa
set_option maxRecDepth 100000
open Go.RowKit

def sumStep (s x : Int) : Int := (131 * s + x + 1) % 999999937
def sumTo (xs : List Int) (k : Nat) : Int := (xs.take k).foldl sumStep 7
def sumOf (xs : List Int) : Int := if rowOk xs = true then sumTo xs xs.length else -1

theorem sumTo_succ {xs : List Int} {k : Nat} (h : k < xs.length) : sumTo xs (k + 1) = sumStep (sumTo xs k) (xs.getD k 0) := by
  unfold sumTo
  rw [List.take_succ_eq_append_getElem h, List.foldl_append]
  simp [List.getD, List.getElem?_eq_getElem h]
theorem sumStep_bd (s x : Int) : 0 ≤ sumStep s x ∧ sumStep s x < 999999937 := by unfold sumStep; omega
theorem sumTo_bd (xs : List Int) (k : Nat) : 0 ≤ sumTo xs k ∧ sumTo xs k < 999999937 := by
  unfold sumTo
  rcases List.eq_nil_or_concat (xs.take k) with h | ⟨l, x, h⟩
  · rw [h]; decide
  · rw [h, List.concat_eq_append, List.foldl_append]; exact sumStep_bd _ _
theorem rowOk_num {xs : List Int} (h : rowOk xs = true) (k : Nat) : 0 ≤ xs.getD k 0 ∧ xs.getD k 0 ≤ 1000000000 := by
  by_cases hk : k < xs.length
  · simp only [rowOk, Bool.and_eq_true, decide_eq_true_eq, List.all_eq_true] at h
    have := h.2 (xs.getD k 0) (by simp [List.getD, List.getElem?_eq_getElem hk])
    simpa [numOk] using this
  · simp [List.getD, List.getElem?_eq_none (show xs.length ≤ k by omega)]
theorem rowOk_lenS {xs : List Int} (h : rowOk xs = true) : xs.length ≤ 48 := by
  simp only [rowOk, Bool.and_eq_true, decide_eq_true_eq] at h
  exact h.1

set_option maxHeartbeats 400000 in
theorem sSum_any (A : Option Addr) (n c B : Nat) (xs : List Int) (w : World) (h : IRow w B A n xs) (hn : n ≤ 1048577) :
    Calls Try.prog 101 #[.slice A n c] w fun e w' => e = .returned (.int .i64 (sumOf xs)) ∧ w = w' := by
  have hl := Lib.hid h.1
  cases hr : rowOk xs
  · have HS := Lib.hid (show sumOf xs = -1 by simp [sumOf, hr])
    go_enter Try.func101, Try.ntmps101
    go_wp2_with fail
    refine (sRowOk_any A n c B xs _ h hn).mono ?_
    rintro e w' ⟨rfl, rfl⟩
    rw [hr]
    go_wp2
    go_ret
    exact ⟨ret_i64 HS.out.symm, rfl⟩
  · have HS := Lib.hid (show sumOf xs = sumTo xs xs.length by simp [sumOf, hr])
    have HR := Lib.hid hr
    have h48 : n ≤ 48 := by rw [← hl.out]; exact rowOk_lenS hr
    clear hr
    go_enter Try.func101, Try.ntmps101
    go_wp2_with fail
    refine (sRowOk_any A n c B xs _ h hn).mono ?_
    rintro e w' ⟨rfl, rfl⟩
    rw [HR.out]
    go_wp2
    go_loop [3, 4] (fun s i => ∃ k : Nat, k ≤ n ∧ i = .int .i64 k ∧ s = .int .i64 (sumTo xs k)) (fun _ i => n - (intOf i).toNat)
    case atStart => exact ⟨0, Nat.zero_le _, rfl, rfl⟩
    case round =>
      obtain ⟨k, hk, rfl, rfl⟩ := hrel
      by_cases hlt : k < n
      · obtain ⟨b, off, rfl, hb, hc⟩ := h.2 (by omega)
        have hcell := hc k hlt
        have hbd := sumTo_bd xs k
        have hnum := rowOk_num HR.out k
        have HN := Lib.hid (sumTo_succ (xs := xs) (k := k) (by have := hl.out; omega))
        generalize xs.getD k 0 = x at hcell hnum HN
        generalize sumTo xs k = s at hbd HN
        obtain ⟨s0, s1⟩ := hbd
        obtain ⟨x0, x1⟩ := hnum
        clear hc h
        go_wp2
        go_round
        case rel => exact ⟨k + 1, by omega, by go_num, by rw [HN.out]; rfl⟩
        case measure => simp [intOf]; omega
      · go_wp2
        go_ret
        have hkn : k = xs.length := by have := hl.out; omega
        exact ⟨ret_i64 (by rw [HS.out, hkn]), rfl⟩

set_option maxHeartbeats 400000 in
theorem iSum_any (A : Option Addr) (n c B : Nat) (xs : List Int) (w : World) (h : IRow w B A n xs) (hn : n ≤ 1048577) :
    Calls Try.prog 87 #[.slice A n c] w fun e w' => e = .returned (.int .i64 (sumOf xs)) ∧ w = w' := by
  have hl := Lib.hid h.1
  cases hr : rowOk xs
  · have HS := Lib.hid (show sumOf xs = -1 by simp [sumOf, hr])
    go_enter Try.func87, Try.ntmps87
    go_wp2_with fail
    refine (iRowOk_any A n c B xs _ h hn).mono ?_
    rintro e w' ⟨rfl, rfl⟩
    rw [hr]
    go_wp2
    go_ret
    exact ⟨ret_i64 HS.out.symm, rfl⟩
  · have HS := Lib.hid (show sumOf xs = sumTo xs xs.length by simp [sumOf, hr])
    have HR := Lib.hid hr
    have h48 : n ≤ 48 := by rw [← hl.out]; exact rowOk_lenS hr
    clear hr
    go_enter Try.func87, Try.ntmps87
    go_wp2_with fail
    refine (iRowOk_any A n c B xs _ h hn).mono ?_
    rintro e w' ⟨rfl, rfl⟩
    rw [HR.out]
    go_wp2
    go_loop [3, 11] (fun s i => ∃ k : Nat, k ≤ n ∧ i = .int .i64 k ∧ s = .int .i64 (sumTo xs k)) (fun _ i => n - (intOf i).toNat)
    case atStart => exact ⟨0, Nat.zero_le _, rfl, rfl⟩
    case round =>
      obtain ⟨k, hk, rfl, rfl⟩ := hrel
      by_cases hlt : k < n
      · obtain ⟨b, off, rfl, hb, hc⟩ := h.2 (by omega)
        have hcell := hc k hlt
        have hbd := sumTo_bd xs k
        have hnum := rowOk_num HR.out k
        have HN := Lib.hid (sumTo_succ (xs := xs) (k := k) (by have := hl.out; omega))
        generalize xs.getD k 0 = x at hcell hnum HN
        generalize sumTo xs k = s at hbd HN
        obtain ⟨s0, s1⟩ := hbd
        obtain ⟨x0, x1⟩ := hnum
        clear hc h
        go_wp2
        go_round
        case rel => exact ⟨k + 1, by omega, by go_num, by rw [HN.out]; rfl⟩
        case measure => simp [intOf]; omega
      · go_wp2
        go_ret
        have hkn : k = xs.length := by have := hl.out; omega
        exact ⟨ret_i64 (by rw [HS.out, hkn]), rfl⟩

end Go.Proofs.Ytejcpoidoekleaa

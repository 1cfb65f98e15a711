/-
  Two slices of rows that read as the same lists are found alike by the laws' second comparison.
-/
import Derived.Test.YtooahggehgkcdaaRows3
import Derived.Test.YtooahggehgkcdaaLike
namespace Go.Proofs.Ytooahggehgkcdaa
open Go.RowKit

set_option maxHeartbeats 800000 in
theorem likes_yes (A A' : Option Addr) (n c c' B B' : Nat) (xss : List (List Int)) (w : World) (h : SRow w B A n xss) (h' : SRow w B' A' n xss) (ht : tot xss ≤ 1048577) :
    Calls Try.prog 23 #[.slice A n c, .slice A' n c'] w fun e w' => e = .returned (.bool true) ∧ Drew w w' := by
  have hl := Lib.hid h.1
  have hn : n ≤ 1048577 := by have := hl.out; unfold tot at ht; omega
  have HT := Lib.hid ht
  clear ht
  go_enter Try.func23, Try.ntmps23
  go_wp2
  go_loopw [5] (fun i wr => ∃ k : Nat, k ≤ n ∧ i = .int .i64 (k : Int) ∧ Drew w wr) (fun i _ => n - (intOf i).toNat)
  case atStart => exact ⟨0, Nat.zero_le _, rfl, Drew.refl _⟩
  case round =>
    obtain ⟨k, hk, rfl, hd⟩ := hrel
    by_cases hlt : k < n
    · have hw := h.below (hd.below _)
      have hw' := h'.below (hd.below _)
      obtain ⟨b, off, rfl, hb, hc⟩ := hw.2 (by omega)
      obtain ⟨b', off', rfl, hb', hc'⟩ := hw'.2 (by omega)
      obtain ⟨A1, m1, c1, hcell, hrow, _⟩ := hc k hlt
      obtain ⟨A2, m2, c2, hcell', hrow', _⟩ := hc' k hlt
      obtain rfl : m1 = m2 := by rw [← hrow.1, ← hrow'.1]
      have hs := lensTo_succ (xss := xss) (k := k) (by have := hl.out; omega)
      have hmono := lensTo_mono (xss := xss) (j := k + 1) (k := xss.length) (by have := hl.out; omega) (Nat.le_refl _)
      have hm : m1 ≤ 1048577 := by
        have h1 := HT.out
        have h2 := hrow.1
        unfold tot at h1
        omega
      have hq := Lib.hid (fun q => like_yes A1 A2 m1 c1 c2 _ _ _ (wr.drewN q) (hrow.drewN q) (hrow'.drewN q) hm)
      have i0 : (0 : Int) ≤ (k : Int) := by omega
      have i1 : (k : Int) < (n : Int) := by omega
      clear hc hc' h h' hs hmono hw hw' hrow hrow'
      go_wp2
      go_quiet ((go_at_call 19; exact Calls.quiet_of (hq.out _)))
      go_wp2
      go_roundw
      case rel => exact ⟨k + 1, by omega, by go_num, hd.more _⟩
      case measure => simp [intOf]; omega
    · go_wp2
      go_ret
      exact ⟨rfl, hd⟩

end Go.Proofs.Ytooahggehgkcdaa

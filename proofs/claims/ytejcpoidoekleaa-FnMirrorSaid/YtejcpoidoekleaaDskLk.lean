/-
  Two slices of rows that read as the same lists are found alike by the laws' second comparison.
-/
import Derived.Test.YtejcpoidoekleaaKD
import Derived.Test.YtejcpoidoekleaaLike
namespace Go.Proofs.Ytejcpoidoekleaa
set_option maxRecDepth 100000
open Go.RowKit

set_option maxHeartbeats 800000 in
theorem likeRows_yes (A A' : Option Addr) (n c c' B B' : Nat) (l : List (List Int)) (w : World) (h : Rd w B [keptD l] [.slice A n c]) (h' : Rd w B' [keptD l] [.slice A' n c']) (ht : rowsSz l ≤ 1048577) :
    Calls Try.prog 27 #[.slice A n c, .slice A' n c'] w fun e w' => e = .returned (.bool true) ∧ Drew w w' := by
  obtain ⟨_, _, _, e, hl, _, _, hel⟩ := h.kept
  injection e with e1 e2 e3
  subst e1 e2 e3
  obtain ⟨_, _, _, e, _, _, _, hel'⟩ := h'.kept
  injection e with e1 e2 e3
  subst e1 e2 e3
  have HL := Lib.hid hl
  have HT := Lib.hid ht
  have hn : n ≤ 1048577 := by unfold rowsSz at ht; omega
  clear ht hl h h'
  go_enter Try.func27, Try.ntmps27
  go_wp2
  go_loopw [5] (fun i wr => ∃ k : Nat, k ≤ n ∧ i = .int .i64 (k : Int) ∧ Drew w wr) (fun i _ => n - (intOf i).toNat)
  case atStart => exact ⟨0, Nat.zero_le _, rfl, Drew.refl _⟩
  case round =>
    obtain ⟨k, hk, rfl, hd⟩ := hrel
    by_cases hlt : k < n
    · obtain ⟨b, off, rfl, hb, hc⟩ := hel (by omega)
      obtain ⟨b', off', rfl, hb', hc'⟩ := hel' (by omega)
      have hkl : k < l.length := by have := HL.out; omega
      obtain ⟨A1, m1, c1, hcell0, hrow0, _⟩ := hc k hkl
      obtain ⟨A2, m2, c2, hcell0', hrow0', _⟩ := hc' k hkl
      have hcell := (hd.cell ⟨b, off + k, none⟩).trans hcell0
      have hcell' := (hd.cell ⟨b', off' + k, none⟩).trans hcell0'
      have hrow := hrow0.below (hd.below _)
      have hrow' := hrow0'.below (hd.below _)
      obtain rfl : m1 = m2 := by rw [← hrow.1, ← hrow'.1]
      have hm : m1 ≤ 1048577 := by
        have h1 := pre_at (g := List.length) hkl
        have h2 := HT.out
        have h3 := hrow.1
        unfold rowsSz at h2
        omega
      have hq := Lib.hid (fun q => like_yes A1 A2 m1 c1 c2 _ _ _ (wr.drewN q) (hrow.drewN q) (hrow'.drewN q) hm)
      have i0 : (0 : Int) ≤ (k : Int) := by omega
      have i1 : (k : Int) < (n : Int) := by omega
      clear hc hc' hel hel' hrow hrow' hrow0 hrow0' hcell0 hcell0'
      go_wp2
      go_quiet ((go_at_call 22; exact Calls.quiet_of (hq.out _)))
      go_wp2
      go_roundw
      case rel => exact ⟨k + 1, by omega, by go_num, hd.more _⟩
      case measure => simp [intOf]; omega
    · go_wp2
      go_ret
      exact ⟨rfl, hd⟩

end Go.Proofs.Ytejcpoidoekleaa

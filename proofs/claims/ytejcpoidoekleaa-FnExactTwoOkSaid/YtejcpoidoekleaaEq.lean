/-
  Two slices of int64 that read as the same numbers are found equal by the laws' comparison.
-/
import Derived.Test.YtejcpoidoekleaaBase
import Derived.Deep.QuietTactic
import Derived.BigQuiet
namespace Go.Proofs.Ytejcpoidoekleaa
set_option maxRecDepth 100000
open Go.RowKit

/-- Nothing but draws. -/
def Drew (w w' : World) : Prop := ∃ m, w' = w.drewN m

theorem Drew.refl (w : World) : Drew w w := ⟨0, rfl⟩
theorem Drew.trans {a b c : World} (h : Drew a b) (k : Drew b c) : Drew a c := by
  obtain ⟨m, rfl⟩ := h
  obtain ⟨q, rfl⟩ := k
  exact ⟨m + q, by rw [World.drewN_drewN]⟩
theorem Drew.more {a b : World} (h : Drew a b) (m : Nat) : Drew a (b.drewN m) := h.trans ⟨m, rfl⟩
theorem Drew.below {a b : World} (h : Drew a b) (B : Nat) : Below B a b := by
  obtain ⟨m, rfl⟩ := h
  exact below_drewN (Below.refl _ _) m
theorem Drew.cell {a b : World} (h : Drew a b) (p : Addr) : b.cell? p = a.cell? p := by
  obtain ⟨m, rfl⟩ := h
  rfl

set_option maxHeartbeats 400000 in
theorem eq_yes (A A' : Option Addr) (n c c' B B' : Nat) (xs : List Int) (w : World) (h : IRow w B A n xs) (h' : IRow w B' A' n xs) (hn : n ≤ 1048577) :
    Calls Try.prog 38 #[.slice A n c, .slice A' n c'] w fun e w' => e = .returned (.bool true) ∧ Drew w w' := by
  go_enter Try.func38, Try.ntmps38
  go_wp2
  go_loopw [5] (fun i wr => ∃ k : Nat, k ≤ n ∧ i = .int .i64 k ∧ Drew w wr) (fun i _ => n - (intOf i).toNat)
  case atStart => exact ⟨0, Nat.zero_le _, rfl, Drew.refl _⟩
  case round =>
    obtain ⟨k, hk, rfl, hd⟩ := hrel
    by_cases hlt : k < n
    · obtain ⟨b, off, rfl, hb, hc⟩ := h.2 (by omega)
      obtain ⟨b', off', rfl, hb', hc'⟩ := h'.2 (by omega)
      have hcell := (hd.cell ⟨b, off + k, none⟩).trans (hc k hlt)
      have hcell' := (hd.cell ⟨b', off' + k, none⟩).trans (hc' k hlt)
      generalize xs.getD k 0 = x at hcell hcell'
      have i0 : (0 : Int) ≤ (k : Int) := by omega
      have i1 : (k : Int) < (n : Int) := by omega
      clear hc hc' h h'
      go_wp2
      go_quiet (fail)
      go_wp2
      go_roundw
      case rel => exact ⟨k + 1, by omega, by go_num, hd.more _⟩
      case measure => simp [intOf]; omega
    · go_wp2
      go_ret
      exact ⟨rfl, hd⟩

end Go.Proofs.Ytejcpoidoekleaa

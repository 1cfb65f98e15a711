/-
  Chapter 5: a network without one message, in the model (by program, wip/gen/gennetf.py).
-/
import Derived.Test.YthcagdcbifdfeaaNetD3
import Derived.RegionTactic
import Derived.Deep.DeepCutAuto
import Derived.BigQuiet
namespace Go.Proofs.Ythcagdcbifdfeaa
set_option maxRecDepth 100000
open Go.RowKit

def withoutM (t : NetM) (k : Nat) : NetM := ⟨t.flight.eraseIdx k, t.cuts⟩
theorem net_len {w : World} {B : Nat} {t : NetM} {A0 A1 : Option Addr} {n0 c0 n1 c1 : Nat} (h : Rd w B t.cells [.slice A0 n0 c0, .slice A1 n1 c1]) : t.flight.length = n0 ∧ t.cuts.length = n1 ∧ n0 ≤ c0 ∧ c0 ≤ maxLen ∧ (0 < n0 → ∃ b off, A0 = some ⟨b, off, none⟩) := by
  obtain ⟨_, _, _, _, _, _, e0, e1, h0, h1⟩ := h.netT
  injection e0 with a1 a2 a3
  subst a1 a2 a3
  injection e1 with a1 a2 a3
  subst a1 a2 a3
  obtain ⟨_, _, _, e, hl, h2, h3, hel⟩ := h0.msgs
  injection e with a1 a2 a3
  subst a1 a2 a3
  obtain ⟨_, _, _, e, hl', _, _, _⟩ := h1.links
  injection e with a1 a2 a3
  subst a1 a2 a3
  exact ⟨hl, hl', h2, h3, fun hp => by obtain ⟨b, off, e, _⟩ := hel hp; exact ⟨b, off, e⟩⟩

theorem own_addr {α : Type} {w : World} {e : TypeId} {k n c : Nat} {f : α → List Dat} {l : List α} {A : Option Addr} {fp : List Nat} (hk : ∀ x, (f x).length = k) (k0 : 0 < k) (h : Ow w [lst e k f l] [.slice A n c] fp) (hn : 0 < n) : ∃ g, A = some ⟨g, 0, none⟩ := by
  obtain ⟨us, fp1, h1, _, _⟩ := h.lst hk k0
  rcases h1.2 with ⟨hv, h0⟩ | ⟨g, cap, cur, hv, _⟩
  · injection hv; omega
  · injection hv with a1 _ _
    exact ⟨g, a1⟩

end Go.Proofs.Ythcagdcbifdfeaa

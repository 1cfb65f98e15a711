/-
  What the frame of a law tells of a slice of slices of int64 that came in: it reads as a list of lists.
-/
import Derived.Test.YtooahggehgkcdaaRows2
namespace Go.Proofs.Ytooahggehgkcdaa
open Go.RowKit

theorem add_none (b off j : Nat) : (⟨b, off, none⟩ : Addr).add j = ⟨b, off + j, none⟩ := by
  unfold Addr.add
  by_cases h0 : j = 0 <;> simp [h0]

theorem spot_none {w : World} {a : Addr} {u : Value} (h : w.cell? (a.add 0) = some u) : a.spot = none ∧ a.block < w.heap.size := by
  obtain ⟨b, off, spot⟩ := a
  have hspot : spot = none := by simpa [Addr.add] using World.cell?_spot h
  subst hspot
  exact ⟨rfl, by simpa [Addr.add] using lt_of_cell h⟩

theorem irow_of {w : World} {A : Option Addr} {m c : Nat} {zs : List Int} (hl : m ≤ c) (hz : zs.length = c) (h0 : A = none → c = 0)
    (hc : ∀ a', A = some a' → ∀ i, i < c → w.cell? (a'.add i) = some (.int .i64 (zs.getD i 0))) : IRow w w.heap.size A m (zs.take m) := by
  refine ⟨by simp; omega, fun hm => ?_⟩
  rcases A with _ | ⟨b, off, spot⟩
  · have := h0 rfl; omega
  · have hcell := hc _ rfl
    obtain ⟨hs, hb⟩ := spot_none (hcell 0 (by omega))
    have hs' : spot = none := hs
    subst hs'
    refine ⟨b, off, rfl, hb, fun j hj => ?_⟩
    have := hcell j (by omega)
    rw [add_none] at this
    rw [this]
    simp [List.getD, hj]

theorem srow_of {w : World} {a : Addr} {len cap : Nat} {A : Nat → Option Addr} {L C : Nat → Nat} {Z : Nat → List Int} (hl : len ≤ cap)
    (h : ∀ r, r < cap → w.cell? (a.add r) = some (.slice (A r) (L r) (C r)) ∧ L r ≤ C r ∧ C r ≤ maxLen ∧ (Z r).length = C r ∧ (∀ n ∈ Z r, (Lit.int .i64 n).wf = true) ∧ (A r = none → C r = 0) ∧
        ∀ a', A r = some a' → 0 ≤ a'.block ∧ ∀ c, c < C r → w.cell? (a'.add c) = some (.int .i64 ((Z r).getD c 0))) :
    SRow w w.heap.size (some a) len ((List.range len).map fun (r : Nat) => (Z r).take (L r)) := by
  refine ⟨by simp, fun hn => ?_⟩
  obtain ⟨b, off, spot⟩ := a
  obtain ⟨hs, hb⟩ := spot_none (h 0 (by omega)).1
  have hs' : spot = none := hs
  subst hs'
  refine ⟨b, off, rfl, hb, fun j hj => ?_⟩
  obtain ⟨h1, h2, h3, h4, _, h6, h7⟩ := h j (by omega)
  rw [add_none] at h1
  refine ⟨A j, L j, C j, h1, ?_, h2, h3⟩
  have e : ((List.range len).map fun (r : Nat) => (Z r).take (L r)).getD j [] = (Z j).take (L j) := by
    simp [List.getD, hj]
  rw [e]
  exact irow_of h2 h4 h6 (fun a' ha' => (h7 a' ha').2)

end Go.Proofs.Ytooahggehgkcdaa

/-
  Parts of an own slice of entries as the program cuts them: what 'list[:k]', 'list[k:]' and 'list[j:k]' hand back, laid ahead of a walk.
-/
import Derived.Test.YtepnghjmpbfmcaaBookT
import Derived.RegionTactic
namespace Go.Proofs.Ytepnghjmpbfmcaa
set_option maxRecDepth 100000
open Go.RowKit

theorem under_ents : Try.prog.underlying 54 = some (.slice (Try.prog.elem 54)) := by kernel_rfl
theorem size_ents (w : World) : (sizeOf (Try.prog.elem 54)).run Try.prog w = .ok 9 w := by kernel_rfl
/-- list[:k] -/
theorem slice_front {w : World} {l : List EntM} {A : Option Addr} {n c k : Nat} {fp : List Nat} (h : Ow w [entD l] [.slice A n c] fp) (hk : k ≤ n) (w9 : World) :
    (Instr.sliceAt 54 (.slice A n c) none (some (.int .i64 (k : Int))) none).run Try.prog w9 = .ok (.slice A k c) w9 := by
  obtain ⟨_, _, _, e, _, hnc, _⟩ := h.rd.ents
  injection e with e1 e2 e3
  subst e1 e2 e3
  rw [run_sliceAt_slice _ _ _ _ _ _ under_ents, run_slice_h _ _ _ _ _ under_ents _ _ (by omega) (by omega), size_ents]
  show Result.ok (sliced A 0 (k : Int).toNat c 9) w9 = _
  unfold sliced
  rcases own_addr h with ⟨e, _, _⟩ | ⟨g, e⟩
  · subst e
    simp
  · subst e
    simp [Addr.add]
/-- list[k:] -/
theorem slice_back {w : World} {l : List EntM} {A : Option Addr} {n c k : Nat} {fp : List Nat} (h : Ow w [entD l] [.slice A n c] fp) (hk : k ≤ n) :
    ∃ A2, (∀ w9, (Instr.sliceAt 54 (.slice A n c) (some (.int .i64 (k : Int))) none none).run Try.prog w9 = .ok (.slice A2 (n - k) (c - k)) w9) ∧ ∀ {v : World} {B : Nat}, Rd v B [entD l] [.slice A n c] → Rd v B [entD (l.drop k)] [.slice A2 (n - k) (c - k)] := by
  obtain ⟨_, _, _, e, _, hnc, hcm, _⟩ := h.rd.ents
  injection e with e1 e2 e3
  subst e1 e2 e3
  refine ⟨if c = k then A else A.map (·.add (k * 9)), fun w9 => ?_, fun h9 => Rd.back entC_len (by decide) h9 hk (fun b off e h => by rw [e, if_neg (by omega)]; simp [Addr.add]) (by omega) (by omega)⟩
  rw [run_sliceAt_slice _ _ _ _ _ _ under_ents, run_slice_l _ _ _ _ _ under_ents _ _ (by omega) (by omega), size_ents]
  show Result.ok (sliced A (k : Int).toNat n c 9) w9 = _
  unfold sliced
  rw [Int.toNat_natCast]
/-- list[j:k] -/
theorem slice_mid {w : World} {l : List EntM} {A : Option Addr} {n c j k : Nat} {fp : List Nat} (h : Ow w [entD l] [.slice A n c] fp) (hj : j ≤ k) (hk : k ≤ n) :
    ∃ A2, (∀ w9, (Instr.sliceAt 54 (.slice A n c) (some (.int .i64 (j : Int))) (some (.int .i64 (k : Int))) none).run Try.prog w9 = .ok (.slice A2 (k - j) (c - j)) w9) ∧ ∀ {v : World} {B : Nat}, Rd v B [entD l] [.slice A n c] → Rd v B [entD ((l.drop j).take (k - j))] [.slice A2 (k - j) (c - j)] := by
  obtain ⟨_, _, _, e, _, hnc, hcm, _⟩ := h.rd.ents
  injection e with e1 e2 e3
  subst e1 e2 e3
  refine ⟨if c = j then A else A.map (·.add (j * 9)), fun w9 => ?_, fun h9 => ?_⟩
  · rw [run_sliceAt_slice _ _ _ _ _ _ under_ents, run_slice_lh _ _ _ _ _ under_ents _ _ _ _ (by omega) (by omega) (by omega), size_ents]
    show Result.ok (sliced A (j : Int).toNat (k : Int).toNat c 9) w9 = _
    unfold sliced
    rw [Int.toNat_natCast, Int.toNat_natCast]
  · have h8 := Rd.back (A2 := if c = j then A else A.map (·.add (j * 9))) (c' := c - j) entC_len (by decide) h9 (show j ≤ n by omega) (fun b off e h => by rw [e, if_neg (by omega)]; simp [Addr.add]) (by omega) (by omega)
    exact Rd.front entC_len (by decide) h8 (by omega) (by omega) (by omega)

end Go.Proofs.Ytepnghjmpbfmcaa

/-
  What the drawn laws of chapter 5 need: pieces written over beside the laws' dice, the empty network, full networks.
-/
import Derived.Test.YthcagdcbifdfeaaDrT
import Derived.Test.YthcagdcbifdfeaaNetJ3
import Derived.Test.YthcagdcbifdfeaaNetC6
import Derived.RegionTactic
namespace Go.Proofs.Ythcagdcbifdfeaa
set_option maxRecDepth 100000
open Go.RowKit

theorem iNewNet_any (w : World) : Calls Try.prog 19 #[] w fun e w' => e = .returned (.agg #[.slice none 0 0, .slice none 0 0]) ∧ Below w.heap.size w w' := by
  have c := (Below.refl w.heap.size w).alloc (Nat.le_refl _) (.cells #[.slice none 0 0, .slice none 0 0] 30)
  go_enter Try.func19, Try.ntmps19
  go_wp2
  exact bodyPost_ret (v := .agg #[.slice none 0 0, .slice none 0 0]) (by simp [results, Try.results19, go_sem]) rfl ⟨rfl, c⟩
theorem ow_zeroN (w : World) : Ow w zeroN.cells [.slice none 0 0, .slice none 0 0] [] := (ow_nilL w).append (ow_nilL w)

/-! ### Full networks -/
def full (m : MsgM) (k : Nat) : NetM := ⟨List.replicate k m, []⟩
theorem full_zero (m : MsgM) : full m 0 = zeroN := rfl
theorem netOk_mk {l : List MsgM} (h : l.all msgOk = true) (hl : l.length ≤ 60) : netOk ⟨l, []⟩ = true := by
  unfold netOk
  rw [decide_eq_true hl, h]
  rfl
theorem full_ok {m : MsgM} {k : Nat} (h : msgOk m = true) (hk : k ≤ 60) : netOk (full m k) = true := by
  refine netOk_mk ?_ (by simpa using hk)
  rw [List.all_eq_true]
  intro x hx
  rw [List.eq_of_mem_replicate hx]
  exact h
theorem full_len (m : MsgM) (k : Nat) : (full m k).flight.length = k := by simp [full]
theorem full_sz {m : MsgM} {k : Nat} (h : msgOk m = true) (hk : k ≤ 60) : (full m k).sz ≤ 4000 := netOk_sz (full_ok h hk)
theorem sent_full {m : MsgM} {k : Nat} (h : msgOk m = true) (hk : k < 60) : sentM (full m k) m = (full m (k + 1), true) := by
  unfold sentM
  rw [if_pos (full_ok h (by omega)), if_pos h, full_len, if_neg (by omega)]
  unfold sentNet full
  rw [List.replicate_succ']
theorem sent_over {m m' : MsgM} (h : msgOk m = true) (h' : msgOk m' = true) : sentM (full m 60) m' = (full m 60, false) := by
  unfold sentM
  rw [if_pos (full_ok h (by omega)), if_pos h', full_len, if_pos rfl]
theorem full_there {n : Nat} {x : Int} (h0 : 0 ≤ x) (h1 : x < (n : Int)) : thereB n x = true := by
  unfold thereB
  rw [decide_eq_true h0, decide_eq_true h1]
  rfl
theorem doubled_over {m : MsgM} {x : Int} (h : msgOk m = true) (h0 : 0 ≤ x) (h1 : x < 60) : doubledM (full m 60) x = (full m 60, false) := by
  unfold doubledM
  rw [if_pos (full_ok h (by omega)), full_len, if_pos (full_there h0 h1)]
  have e : (full m 60).flight.getD x.toNat ⟨0, 0, []⟩ = m := by
    unfold full
    rw [List.getD_eq_getElem?_getD, List.getElem?_replicate]
    rw [if_pos (by omega)]
    rfl
  rw [e]
  exact sent_over h h
theorem lost_full {m : MsgM} {x : Int} (h : msgOk m = true) (h0 : 0 ≤ x) (h1 : x < 60) : lostM (full m 60) x = (full m 59, true) := by
  unfold lostM
  rw [if_pos (full_ok h (by omega)), full_len, if_pos (full_there h0 h1)]
  have e : (List.replicate 60 m).eraseIdx x.toNat = List.replicate 59 m := by
    rw [List.eraseIdx_replicate, if_pos (by omega)]
  unfold withoutM full
  simp only
  rw [e]
theorem allEq_refl {α : Type} {q : α → α → Bool} (h : ∀ x, q x x = true) : ∀ l : List α, allEq q l l = true
  | [] => rfl
  | x :: l => by
    unfold allEq
    rw [h x, allEq_refl h l]
    rfl
theorem sameNet_refl (t : NetM) : sameNet t t = true := by
  unfold sameNet
  rw [allEq_refl (fun x => ?_), allEq_refl (fun x => ?_)]
  · rfl
  · simp [linkEq]
  · unfold sameMsg
    simp [sameI]
/-! ### Drawn letters -/
theorem six_in {x0 y : Int} (h0 : 0 ≤ x0 ∧ x0 < 6) (h1 : 0 ≤ y ∧ y < 5) : 0 ≤ (x0 + 1 + y).tmod 6 ∧ (x0 + 1 + y).tmod 6 ≤ 5 ∧ x0 ≠ (x0 + 1 + y).tmod 6 := by
  rw [Int.tmod_eq_emod_of_nonneg (by omega)]
  omega
theorem letter_ok {x0 y : Int} {xs : List Int} (h0 : 0 ≤ x0 ∧ x0 < 6) (h1 : 0 ≤ y ∧ y < 5) (hl : 0 < xs.length) (hl4 : xs.length ≤ 4) (hx : ∀ x ∈ xs, 0 ≤ x ∧ x < 100) : msgOk ⟨x0, (x0 + 1 + y).tmod 6, xs⟩ = true := by
  obtain ⟨a, b, c⟩ := six_in h0 h1
  unfold msgOk twoB nodeB
  have hr : rowOk xs = true := by
    unfold rowOk numOk
    rw [Bool.and_eq_true, List.all_eq_true]
    refine ⟨decide_eq_true (by omega), fun x h => ?_⟩
    have := hx x h
    rw [decide_eq_true this.1, decide_eq_true (by omega)]
    rfl
  rw [hr]
  simp only [Bool.and_eq_true, decide_eq_true_eq, bne_iff_ne]
  exact ⟨⟨⟨⟨h0.1, by omega⟩, a, b⟩, c⟩, hl, trivial⟩
end Go.Proofs.Ythcagdcbifdfeaa

/-
  What the law FnMirror says, as plain mathematics: a row written to a new pair, bent on one disk, found on the other and repaired.
-/
import Derived.Test.YtejcpoidoekleaaKT
import Derived.Test.YtejcpoidoekleaaKB
import Derived.Test.YtejcpoidoekleaaKI
namespace Go.Proofs.Ytejcpoidoekleaa
set_option maxRecDepth 100000
open Go.RowKit

def kk (s : List Int) : List (List Int) := [[], [], s, []]
/-- Four sectors, the third one filled on both disks, nothing waiting. -/
def pairOf (s s' : List Int) : TwoM := ⟨⟨kk s, []⟩, ⟨kk s', []⟩⟩
/-- .. and a write waiting on both. -/
def pairW (s s' r : List Int) : TwoM := ⟨⟨kk s, [(2, r)]⟩, ⟨kk s', [(2, r)]⟩⟩

theorem nil_okS : rowOk [] = true := nil_ok
theorem kk_ok {s : List Int} (h : rowOk s = true) : diskOk ⟨kk s, []⟩ = true := by
  refine diskOk_iff.2 ⟨by simp [kk], Nat.zero_le _, ?_, rfl⟩
  simp [kk, nil_okS, h]
theorem kk_okW {s r : List Int} (h : rowOk s = true) (hr : rowOk r = true) : diskOk ⟨kk s, [(2, r)]⟩ = true := by
  refine diskOk_iff.2 ⟨by simp [kk], by simp, ?_, ?_⟩
  · simp [kk, nil_okS, h]
  · simp [wrOk, hasS, kk, hr]
theorem pairOf_ok {s s' : List Int} (h : rowOk s = true) (h' : rowOk s' = true) : twoOk (pairOf s s') = true := twoOk_iff.2 ⟨kk_ok h, kk_ok h', rfl⟩
theorem pairW_ok {s s' r : List Int} (h : rowOk s = true) (h' : rowOk s' = true) (hr : rowOk r = true) : twoOk (pairW s s' r) = true := twoOk_iff.2 ⟨kk_okW h hr, kk_okW h' hr, rfl⟩
theorem new_four : newTwo 4 = pairOf [] [] := rfl
theorem has_two (s : List Int) (l : List (Int × List Int)) : hasS ⟨kk s, l⟩ 2 = true := by simp [hasS, kk]
theorem wrote_pair {s r : List Int} (h : rowOk s = true) (hr : rowOk r = true) : wrote ⟨kk s, []⟩ 2 r = (⟨kk s, [(2, r)]⟩, true) := by
  unfold wrote
  rw [if_pos (kk_ok h), if_pos ⟨has_two _ _, hr, by simp⟩]
  rfl
theorem both_pair {s s' r : List Int} (h : rowOk s = true) (h' : rowOk s' = true) (hr : rowOk r = true) (hl : r.length < 48) : bothWrote (pairOf s s') 2 r = (pairW s s' (withSum r), true) := by
  have hw : rowOk (withSum r) = true := by
    rw [withSum_yes hr hl]
    exact rowOk_snoc hr hl (sumOf_bd hr).1 (sumOf_bd hr).2
  have h0 : (withSum r).length ≠ 0 := by rw [withSum_yes hr hl]; simp
  have ea : wrote (pairOf s s').a 2 (withSum r) = (⟨kk s, [(2, withSum r)]⟩, true) := wrote_pair h hw
  have eb : wrote (pairOf s s').b 2 (withSum r) = (⟨kk s', [(2, withSum r)]⟩, true) := wrote_pair h' hw
  unfold bothWrote
  rw [if_pos (pairOf_ok h h'), ea, eb, if_pos ⟨h0, rfl, rfl⟩]
  rfl
theorem synced_pair {s r : List Int} (h : rowOk s = true) (hr : rowOk r = true) : synced ⟨kk s, [(2, r)]⟩ = ⟨kk r, []⟩ := by
  unfold synced
  rw [if_pos (kk_okW h hr)]
  rfl
theorem bothSynced_pair {s s' r : List Int} (h : rowOk s = true) (h' : rowOk s' = true) (hr : rowOk r = true) : bothSynced (pairW s s' r) = pairOf r r := by
  have ea : synced (pairW s s' r).a = ⟨kk r, []⟩ := synced_pair h hr
  have eb : synced (pairW s s' r).b = ⟨kk r, []⟩ := synced_pair h' hr
  unfold bothSynced
  rw [if_pos (pairW_ok h h' hr), ea, eb]
  rfl
theorem equal_pair {s s' : List Int} (h : rowOk s = true) (h' : rowOk s' = true) : equalIn (pairOf s s') = decide (s = s') := by
  have e1 : safeIn (pairOf s s').a = true := by
    have := kk_ok h
    simp [safeIn, pairOf, this]
  have e2 : safeIn (pairOf s s').b = true := by
    have := kk_ok h'
    simp [safeIn, pairOf, this]
  unfold equalIn
  rw [pairOf_ok h h', e1, e2]
  simp [pairOf, kk]
theorem rotted_pair {s : List Int} (h : rowOk s = true) {i n : Int} (i0 : 0 ≤ i) (i1 : i < (s.length : Int)) (n0 : 0 ≤ n) (n1 : n ≤ 1000000000) : rotted ⟨kk s, []⟩ 2 i n = (⟨kk (s.set i.toNat n), []⟩, true) := by
  unfold rotted
  rw [if_pos (kk_ok h), if_pos ⟨has_two _ _, ⟨i0, i1⟩, ⟨n0, n1⟩⟩]
  rfl
theorem set_ok {s : List Int} (h : rowOk s = true) {i : Nat} {n : Int} (n0 : 0 ≤ n) (n1 : n ≤ 1000000000) : rowOk (s.set i n) = true := by
  rw [rowOk_iff] at h ⊢
  refine ⟨by simpa using h.1, fun x hx => ?_⟩
  rcases List.mem_or_eq_of_mem_set hx with hx | hx
  · exact h.2 x hx
  · subst hx
    simp [numOk, n0, n1]
theorem read_pair {s : List Int} (h : rowOk s = true) : readAt ⟨kk s, []⟩ 2 = (s, true) := by
  unfold readAt
  rw [if_pos ⟨kk_ok h, has_two _ _⟩]
  rfl
theorem right_pair {s s' : List Int} (h : rowOk s = true) (h' : rowOk s' = true) : rightAt (pairOf s s') 2 = (if (unsummed s).2 = true then [(unsummed s).1] else []) ++ (if (unsummed s').2 = true ∧ ¬ ((unsummed s).2 = true ∧ (unsummed s).1 = (unsummed s').1) then [(unsummed s').1] else []) := by
  have ea : rightOf (pairOf s s').a 2 = unsummed s := by unfold rightOf; rw [show readAt (pairOf s s').a 2 = (s, true) from read_pair h]
  have eb : rightOf (pairOf s s').b 2 = unsummed s' := by unfold rightOf; rw [show readAt (pairOf s s').b 2 = (s', true) from read_pair h']
  unfold rightAt
  rw [if_pos ⟨pairOf_ok h h', has_two _ _⟩, ea, eb]

end Go.Proofs.Ytejcpoidoekleaa

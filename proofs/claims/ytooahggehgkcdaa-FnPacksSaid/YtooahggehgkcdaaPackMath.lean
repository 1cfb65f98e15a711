/-
  Plain facts on packing: packed rows are recovered, and what is unpacked is packed again as it was.
-/
import Derived.Test.YtooahggehgkcdaaUnpM
import Derived.Test.YtooahggehgkcdaaPack
import Derived.Test.YtooahggehgkcdaaSumMath
namespace Go.Proofs.Ytooahggehgkcdaa

theorem flat_split {xss : List (List Int)} {k : Nat} (h : k < xss.length) : packTo xss xss.length = packTo xss k ++ (((xss.getD k []).length : Int) :: (xss.getD k [] ++ (xss.drop (k + 1)).flatMap fun r => (r.length : Int) :: r)) := by
  unfold packTo
  rw [List.take_length, List.cons_append]
  congr 1
  have e : xss = xss.take k ++ xss.getD k [] :: xss.drop (k + 1) := by
    have : xss.getD k [] = xss[k] := by simp [List.getD, List.getElem?_eq_getElem h]
    rw [this, ← List.drop_eq_getElem_cons h, List.take_append_drop]
  have e2 := congrArg (fun l : List (List Int) => l.flatMap fun r => (r.length : Int) :: r) e
  simp only [List.flatMap_append, List.flatMap_cons] at e2
  rw [e2]
  simp

theorem pos_pack {xss : List (List Int)} : ∀ k, k ≤ xss.length → posTo (packTo xss xss.length) k = (packTo xss k).length := by
  intro k
  induction k with
  | zero => intro _; rw [packTo_zero]; rfl
  | succ k ih =>
    intro hk
    have h1 := ih (by omega)
    have h2 := flat_split (xss := xss) (k := k) (by omega)
    rw [packTo_len_succ (by omega)]
    show posTo _ k + 1 + numAt _ (posTo _ k) = _
    rw [h1]
    have e : numAt (packTo xss xss.length) (packTo xss k).length = (xss.getD k []).length := by
      unfold numAt
      rw [h2]
      simp [List.getD]
    rw [e]

theorem row_pack {xss : List (List Int)} {k : Nat} (hk : k < xss.length) : rowAt (packTo xss xss.length) k = xss.getD k [] := by
  have h1 := pos_pack (xss := xss) k (by omega)
  have h2 := flat_split (xss := xss) (k := k) hk
  have e : numAt (packTo xss xss.length) (packTo xss k).length = (xss.getD k []).length := by
    unfold numAt
    rw [h2]
    simp [List.getD]
  unfold rowAt
  rw [h1, e, h2]
  have e2 : ∀ (l : List Int) (x : Int) (r t : List Int), ((l ++ (x :: (r ++ t))).drop (l.length + 1)).take r.length = r := by
    intro l x r t
    rw [List.drop_append, List.drop_eq_nil_of_le (by omega)]
    simp
  exact e2 _ _ _ _

theorem all_getD {xss : List (List Int)} (h : xss.all rowOk = true) (k : Nat) : rowOk (xss.getD k []) = true := by
  by_cases hk : k < xss.length
  · rw [List.all_eq_true] at h
    exact h _ (by simp [List.getD, List.getElem?_eq_getElem hk])
  · rw [List.getD, List.getElem?_eq_none (by omega)]; rfl

theorem packTo_ok {xss : List (List Int)} (h : xss.all rowOk = true) (hl : (packTo xss xss.length).length ≤ 48) : rowOk (packTo xss xss.length) = true := by
  rw [rowOk_iff]
  refine ⟨hl, fun x hx => ?_⟩
  have hn : xss.length ≤ 48 := by
    have := packTo_mono (xss := xss) (j := 0) (k := xss.length) (by omega) (Nat.le_refl _)
    rw [packTo_zero] at this
    simp at this
    omega
  unfold packTo at hx
  rw [List.take_length, List.mem_cons] at hx
  rcases hx with rfl | hx
  · omega
  · rw [List.mem_flatMap] at hx
    obtain ⟨r, hr, hx⟩ := hx
    have ho := (List.all_eq_true.1 h) r hr
    rw [rowOk_iff] at ho
    rw [List.mem_cons] at hx
    rcases hx with rfl | hx
    · omega
    · exact ho.2 x hx

/-- Packed rows are recovered. -/
theorem unp_packed {xss : List (List Int)} (h : 0 < (packed xss).length) : unpacked (packed xss) = (xss, true) := by
  unfold packed at h ⊢
  by_cases hc : xss.all rowOk = true ∧ (packTo xss xss.length).length ≤ 48
  · rw [if_pos hc]
    have hm : numAt (packTo xss xss.length) 0 = xss.length := by simp [numAt, packTo, List.getD]
    have hp := pos_pack (xss := xss) xss.length (Nat.le_refl _)
    rw [unp_yes (packTo_ok hc.1 hc.2) (by simp [packTo]) (by rw [hm, hp]), hm]
    congr 1
    unfold rowsTo
    apply List.ext_getElem (by simp)
    intro j h1 h2
    simp only [List.getElem_map, List.getElem_range]
    rw [row_pack h2]
    simp [List.getD, List.getElem?_eq_getElem h2]
  · rw [if_neg hc] at h
    simp at h

/-- What is unpacked is packed again as it was. -/
theorem packed_unp {ys : List Int} (h : (unpacked ys).2 = true) : packed (unpacked ys).1 = ys := by
  by_cases hc : rowOk ys = true ∧ 0 < ys.length ∧ posTo ys (numAt ys 0) = ys.length
  · obtain ⟨hr, h0, he⟩ := hc
    rw [unp_yes hr h0 he]
    show packed (rowsTo ys (numAt ys 0)) = ys
    have hnum : ∀ i, ys.getD i 0 = (numAt ys i : Int) := fun i => by have := (rowOk_num hr i).1; unfold numAt; omega
    have key : ∀ k, k ≤ numAt ys 0 → packTo (rowsTo ys (numAt ys 0)) k = ys.take (posTo ys k) := by
      intro k
      induction k with
      | zero =>
        intro _
        rw [packTo_zero, rowsTo_length, ← hnum 0]
        show _ = ys.take 1
        cases ys with
        | nil => simp at h0
        | cons y l => simp [List.getD]
      | succ k ih =>
        intro hk
        have hle : posTo ys (k + 1) ≤ ys.length := by
          have := posTo_mono (xs := ys) (j := k + 1) (k := numAt ys 0) hk
          omega
        have hpe : posTo ys (k + 1) = posTo ys k + 1 + numAt ys (posTo ys k) := rfl
        rw [packTo_succ (by rw [rowsTo_length]; omega), ih (by omega)]
        have e : (rowsTo ys (numAt ys 0)).getD k [] = rowAt ys k := by
          simp [rowsTo, List.getD, show k < numAt ys 0 by omega]
        rw [e, rowAt_length hle, ← hnum, hpe]
        have hP : posTo ys k < ys.length := by omega
        rw [Nat.add_assoc, List.take_add, List.append_assoc]
        congr 1
        rw [List.drop_eq_getElem_cons hP, Nat.add_comm 1, List.take_succ_cons]
        simp [List.getD, List.getElem?_eq_getElem hP, rowAt]
    have hfull := key (numAt ys 0) (Nat.le_refl _)
    rw [he, List.take_length] at hfull
    unfold packed
    rw [rowsTo_length, hfull, if_pos]
    refine ⟨?_, rowOk_len hr⟩
    rw [List.all_eq_true]
    intro r hrm
    unfold rowsTo at hrm
    rw [List.mem_map] at hrm
    obtain ⟨j, _, rfl⟩ := hrm
    rw [rowOk_iff] at hr ⊢
    unfold rowAt
    refine ⟨?_, fun x hx => hr.2 x (List.mem_of_mem_drop (List.mem_of_mem_take hx))⟩
    rw [List.length_take, List.length_drop]
    omega
  · unfold unpacked at h
    rw [if_neg hc] at h
    cases h

theorem unp_tot' (xs : List Int) : tot (unpacked xs).1 ≤ 48 := by
  unfold unpacked
  split
  · rename_i h
    have h1 := rowOk_len h.1
    have h2 := lens_rowsTo (xs := xs) (k := numAt xs 0) (by rw [h.2.2]; exact Nat.le_refl _)
    unfold tot
    simp only [rowsTo_length]
    omega
  · simp [tot, lensTo]

theorem packed_six : (packed [[1], [2, 3]]).length = 6 := by decide

end Go.Proofs.Ytooahggehgkcdaa

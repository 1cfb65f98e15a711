/-
  Links cut and healed: sorted cuts as sets, and the law's own table of them.
-/
import Derived.Test.YthcagdcbifdfeaaNetK0
import Derived.Test.YthcagdcbifdfeaaNetG2
namespace Go.Proofs.Ythcagdcbifdfeaa
set_option maxRecDepth 100000
open Go.RowKit

theorem linkLess_total {x y : LinkM} (h : linkLess x y = false) (hne : x ≠ y) : linkLess y x = true := by
  rw [Bool.eq_false_iff] at h
  have hne' : ¬ (x.a = y.a ∧ x.b = y.b) := fun e => hne (by
    obtain ⟨a, b⟩ := x
    obtain ⟨c, d⟩ := y
    simp at e
    simp [e.1, e.2])
  simp only [linkLess, ne_eq, Bool.or_eq_true, Bool.and_eq_true, decide_eq_true_eq, beq_iff_eq] at *
  omega
theorem cutsB_iff {c : List LinkM} : cutsB c = true ↔ (∀ x ∈ c, linkB x = true) ∧ c.Pairwise (fun x y => linkLess x y = true) := by
  constructor
  · intro h
    refine ⟨fun x hx => ?_, ?_⟩
    · obtain ⟨i, hi, rfl⟩ := List.getElem_of_mem hx
      have h1 := cutsB_at h hi
      unfold cutAt at h1
      rw [getD_at hi, Bool.and_eq_true] at h1
      exact h1.1
    · rw [List.pairwise_iff_getElem]
      intro i j hi hj hij
      exact cutsB_less h j i hj hij
  · rintro ⟨h1, h2⟩
    rw [List.pairwise_iff_getElem] at h2
    refine cutsB_end fun j hj => ?_
    unfold cutAt
    rw [getD_at hj, h1 _ (List.getElem_mem hj), Bool.true_and]
    by_cases h0 : j = 0
    · rw [decide_eq_true h0]
      rfl
    · rw [getD_at (show j - 1 < c.length by omega), h2 (j - 1) j (by omega) hj (by omega), Bool.or_true]
theorem isCut_iff {c : List LinkM} {l : LinkM} : isCut c l = true ↔ l ∈ c := by
  unfold isCut
  rw [decide_eq_true_eq]
  constructor
  · intro h
    have h1 : (!linkEq c[eqIx c l] l) = false := firstNot_at (fun x => !linkEq x l) c h
    have h2 : c[eqIx c l] = l := (linkEq_iff _ _).1 (by simpa using h1)
    exact h2 ▸ List.getElem_mem h
  · intro h
    obtain ⟨i, hi, e⟩ := List.getElem_of_mem h
    rcases Nat.lt_or_ge (eqIx c l) c.length with h1 | h1
    · exact h1
    · have := firstNot_before (fun x => !linkEq x l) c i hi (Nat.lt_of_lt_of_le hi h1)
      rw [e, linkEq_refl] at this
      cases this
theorem isCut_no {c : List LinkM} {l : LinkM} : isCut c l = false ↔ l ∉ c := by
  rw [← isCut_iff, Bool.not_eq_true]
section
variable {t : NetM} {l : LinkM}
theorem cutNet_mem {x : LinkM} : x ∈ (cutNet t l).cuts ↔ x = l ∨ x ∈ t.cuts := by
  have e : x ∈ t.cuts ↔ x ∈ t.cuts.take (lowN t.cuts l) ∨ x ∈ t.cuts.drop (lowN t.cuts l) := by
    rw [← List.mem_append, List.take_append_drop]
  rw [e]
  unfold cutNet
  simp only [List.mem_append, List.mem_singleton]
  constructor
  · rintro ((h | h) | h)
    · exact .inr (.inl h)
    · exact .inl h
    · exact .inr (.inr h)
  · rintro (h | h | h)
    · exact .inl (.inr h)
    · exact .inl (.inl h)
    · exact .inr h
theorem cutNet_ok (h : netOk t = true) (hl : linkB l = true) (hn : isCut t.cuts l = false) (hc : t.cuts.length ≤ 14) : netOk (cutNet t l) = true := by
  obtain ⟨h1, _, h3, h4⟩ := netOk_spec h
  obtain ⟨h5, h6⟩ := cutsB_iff.1 h4
  have hk := lowN_le t.cuts l
  refine netOk_yes h1 ?_ h3 (cutsB_iff.2 ⟨fun x hx => ?_, ?_⟩)
  · unfold cutNet
    simp only [List.length_append, List.length_take, List.length_drop, List.length_singleton]
    omega
  · rcases cutNet_mem.1 hx with rfl | hx
    · exact hl
    · exact h5 x hx
  · have ha : ∀ a ∈ t.cuts.take (lowN t.cuts l), linkLess a l = true := fun a ha => by
      obtain ⟨i, hi, rfl⟩ := List.getElem_of_mem ha
      rw [List.length_take] at hi
      rw [List.getElem_take]
      exact firstNot_before (fun x => linkLess x l) t.cuts i (by omega) (by show i < lowN t.cuts l; omega)
    have hb : ∀ b ∈ t.cuts.drop (lowN t.cuts l), linkLess l b = true := fun b hb => by
      obtain ⟨i, hi, rfl⟩ := List.getElem_of_mem hb
      rw [List.length_drop] at hi
      rw [List.getElem_drop]
      have hlt : lowN t.cuts l < t.cuts.length := by omega
      have g1 : linkLess t.cuts[lowN t.cuts l] l = false := firstNot_at (fun x => linkLess x l) t.cuts hlt
      have g2 : linkLess l t.cuts[lowN t.cuts l] = true := linkLess_total g1 (fun e => isCut_no.1 hn (e ▸ List.getElem_mem hlt))
      rcases Nat.eq_zero_or_pos i with h0 | h0
      · subst h0
        exact g2
      · exact linkLess_trans g2 (cutsB_less h4 _ _ (by omega) (by omega))
    show (t.cuts.take (lowN t.cuts l) ++ [l] ++ t.cuts.drop (lowN t.cuts l)).Pairwise _
    rw [List.pairwise_append, List.pairwise_append]
    refine ⟨⟨h6.sublist (List.take_sublist ..), List.pairwise_singleton _ _, fun a h' b hb' => ?_⟩, h6.sublist (List.drop_sublist ..), fun a h' b hb' => ?_⟩
    · rw [List.mem_singleton.1 hb']
      exact ha a h'
    · rcases List.mem_append.1 h' with h' | h'
      · exact linkLess_trans (ha a h') (hb b hb')
      · rw [List.mem_singleton.1 h']
        exact hb b hb'
theorem healNet_ok (h : netOk t = true) (k : Nat) : netOk (healNet t k) = true := by
  obtain ⟨h1, h2, h3, h4⟩ := netOk_spec h
  obtain ⟨h5, h6⟩ := cutsB_iff.1 h4
  have hs : (t.cuts.eraseIdx k).Sublist t.cuts := List.eraseIdx_sublist ..
  exact netOk_yes h1 (Nat.le_trans hs.length_le h2) h3 (cutsB_iff.2 ⟨fun x hx => h5 x (hs.subset hx), h6.sublist hs⟩)
theorem healNet_mem (h : netOk t = true) (hl : isCut t.cuts l = true) {x : LinkM} : x ∈ (healNet t (eqIx t.cuts l)).cuts ↔ x ∈ t.cuts ∧ x ≠ l := by
  have h4 := (netOk_spec h).2.2.2
  have hlt : eqIx t.cuts l < t.cuts.length := by unfold isCut at hl; exact of_decide_eq_true hl
  have h1 : (!linkEq t.cuts[eqIx t.cuts l] l) = false := firstNot_at (fun x => !linkEq x l) t.cuts hlt
  have h2 : t.cuts[eqIx t.cuts l] = l := (linkEq_iff _ _).1 (by simpa using h1)
  show x ∈ t.cuts.eraseIdx (eqIx t.cuts l) ↔ _
  rw [List.mem_eraseIdx_iff_getElem]
  constructor
  · rintro ⟨i, hi, hne, rfl⟩
    refine ⟨List.getElem_mem hi, fun e => ?_⟩
    rcases Nat.lt_or_gt_of_ne hne with g | g
    · have := cutsB_less h4 _ i hlt g
      rw [h2, e, linkLess_irrefl] at this
      cases this
    · have := cutsB_less h4 i _ hi g
      rw [h2, e, linkLess_irrefl] at this
      cases this
  · rintro ⟨hx, hne⟩
    obtain ⟨i, hi, rfl⟩ := List.getElem_of_mem hx
    refine ⟨i, hi, fun e => hne ?_, rfl⟩
    subst e
    exact h2
end

/-! ### The law's table -/
/-- The table bs tells of the links of t, and t has no messages and at most m cuts. -/
def Good (t : NetM) (bs : List Bool) (m : Nat) : Prop :=
  netOk t = true ∧ t.flight = [] ∧ t.cuts.length ≤ m ∧ bs.length = 36 ∧ ∀ a b : Nat, a < 6 → b < 6 → a ≠ b → bs.getD (6 * a + b) false = isCut t.cuts (linkOf a b)
theorem linkOf_eq {a b i j : Nat} (_hab : a ≠ b) (_hij : i ≠ j) : linkOf a b = linkOf i j ↔ (a = i ∧ b = j) ∨ (a = j ∧ b = i) := by
  unfold linkOf
  split <;> split <;> rw [LinkM.mk.injEq] <;> omega
theorem linkOf_B {i j : Nat} (hi : i < 6) (hj : j < 6) (h : i ≠ j) : linkB (linkOf i j) = true := by
  unfold linkB linkOf nodeB
  split <;> simp <;> omega
theorem twoB_yes {i j : Nat} (hi : i < 6) (hj : j < 6) (h : i ≠ j) : twoB i j = true := by
  unfold twoB nodeB
  simp
  omega
theorem twoB_same (i : Int) : twoB i i = false := by
  unfold twoB
  simp
theorem getD_set (bs : List Bool) (p q : Nat) (v : Bool) (hp : p < bs.length) : (bs.set p v).getD q false = if q = p then v else bs.getD q false := by
  rw [List.getD_eq_getElem?_getD, List.getD_eq_getElem?_getD, List.getElem?_set]
  by_cases h : p = q
  · subst h
    rw [if_pos rfl, if_pos rfl, if_pos hp]
    rfl
  · rw [if_neg h, if_neg (fun e => h e.symm)]
theorem getD_two {bs : List Bool} {i j a b : Nat} {v : Bool} (hl : bs.length = 36) (hi : i < 6) (hj : j < 6) (_ : a < 6) (hb : b < 6) (hij : i ≠ j) :
    ((bs.set (6 * i + j) v).set (6 * j + i) v).getD (6 * a + b) false = if (a = i ∧ b = j) ∨ (a = j ∧ b = i) then v else bs.getD (6 * a + b) false := by
  rw [getD_set _ _ _ _ (by rw [List.length_set]; omega), getD_set _ _ _ _ (by omega)]
  by_cases h1 : a = i ∧ b = j
  · obtain ⟨rfl, rfl⟩ := h1
    rw [if_neg (by omega), if_pos rfl, if_pos (.inl ⟨rfl, rfl⟩)]
  · by_cases h2 : a = j ∧ b = i
    · obtain ⟨rfl, rfl⟩ := h2
      rw [if_pos rfl, if_pos (.inr ⟨rfl, rfl⟩)]
    · rw [if_neg (by omega), if_neg (by omega), if_neg (by rintro (h | h); exact h1 h; exact h2 h)]
section
variable {t : NetM} {bs : List Bool} {m i j : Nat}
theorem good_zero : Good zeroN (List.replicate 36 false) 0 := by
  refine ⟨by decide, rfl, Nat.le_refl _, by simp, fun a b _ _ _ => ?_⟩
  rw [isCut_no.2 (by simp [zeroN]), List.getD_eq_getElem?_getD, List.getElem?_replicate]
  split <;> rfl
theorem Good.up (h : Good t bs m) {m' : Nat} (hm : m ≤ m') : Good t bs m' := ⟨h.1, h.2.1, Nat.le_trans h.2.2.1 hm, h.2.2.2⟩
theorem cut_step (h : Good t bs m) (hm : m ≤ 13) (hi : i < 6) (hj : j < 6) :
    (i = j ∧ cutOffM t i j = (t, false)) ∨ (i ≠ j ∧ bs.getD (6 * i + j) false = true ∧ cutOffM t i j = (t, false)) ∨
    (i ≠ j ∧ bs.getD (6 * i + j) false = false ∧ ∃ t', cutOffM t i j = (t', true) ∧ Good t' ((bs.set (6 * i + j) true).set (6 * j + i) true) (m + 1)) := by
  obtain ⟨h1, h2, h3, h4, h5⟩ := h
  by_cases e : i = j
  · subst e
    exact .inl ⟨rfl, by unfold cutOffM; rw [if_pos h1, twoB_same]; rfl⟩
  · have hb := h5 i j hi hj e
    cases hc : isCut t.cuts (linkOf i j) with
    | true => exact .inr (.inl ⟨e, by rw [hb, hc], by unfold cutOffM; rw [if_pos h1, twoB_yes hi hj e, hc]; rfl⟩)
    | false =>
      refine .inr (.inr ⟨e, by rw [hb, hc], cutNet t (linkOf i j), by unfold cutOffM; rw [if_pos h1, twoB_yes hi hj e, hc]; rfl, cutNet_ok h1 (linkOf_B hi hj e) hc (by omega), h2, ?_, by simp [h4], fun a b ha hb' hab => ?_⟩)
      · have := lowN_le t.cuts (linkOf i j)
        unfold cutNet
        simp only [List.length_append, List.length_take, List.length_drop, List.length_singleton]
        omega
      · rw [getD_two h4 hi hj ha hb' e]
        by_cases g : (a = i ∧ b = j) ∨ (a = j ∧ b = i)
        · rw [if_pos g]
          exact (isCut_iff.2 (cutNet_mem.2 (.inl ((linkOf_eq hab e).2 g)))).symm
        · rw [if_neg g, h5 a b ha hb' hab, Bool.eq_iff_iff, isCut_iff, isCut_iff, cutNet_mem]
          exact ⟨.inr, fun q => q.resolve_left (fun q => g ((linkOf_eq hab e).1 q))⟩
theorem heal_step (h : Good t bs m) (hi : i < 6) (hj : j < 6) :
    (i = j ∧ healedM t i j = (t, false)) ∨ (i ≠ j ∧ bs.getD (6 * i + j) false = false ∧ healedM t i j = (t, false)) ∨
    (i ≠ j ∧ bs.getD (6 * i + j) false = true ∧ ∃ t', healedM t i j = (t', true) ∧ Good t' ((bs.set (6 * i + j) false).set (6 * j + i) false) (m + 1)) := by
  obtain ⟨h1, h2, h3, h4, h5⟩ := h
  by_cases e : i = j
  · subst e
    refine .inl ⟨rfl, ?_⟩
    have hc : isCut t.cuts (linkOf i i) = false := isCut_no.2 fun hx => by
      have := (cutsB_iff.1 (netOk_spec h1).2.2.2).1 _ hx
      unfold linkB linkOf at this
      simp at this
    unfold healedM
    rw [if_pos h1, hc]
    rfl
  · have hb := h5 i j hi hj e
    cases hc : isCut t.cuts (linkOf i j) with
    | false => exact .inr (.inl ⟨e, by rw [hb, hc], by unfold healedM; rw [if_pos h1, hc]; rfl⟩)
    | true =>
      refine .inr (.inr ⟨e, by rw [hb, hc], healNet t (eqIx t.cuts (linkOf i j)), by unfold healedM; rw [if_pos h1, hc]; rfl, healNet_ok h1 _, h2, ?_, by simp [h4], fun a b ha hb' hab => ?_⟩)
      · have : (t.cuts.eraseIdx (eqIx t.cuts (linkOf i j))).length ≤ t.cuts.length := (List.eraseIdx_sublist ..).length_le
        unfold healNet
        simp only
        omega
      · rw [getD_two h4 hi hj ha hb' e]
        by_cases g : (a = i ∧ b = j) ∨ (a = j ∧ b = i)
        · rw [if_pos g]
          exact (isCut_no.2 (fun q => ((healNet_mem h1 hc).1 q).2 ((linkOf_eq hab e).2 g))).symm
        · rw [if_neg g, h5 a b ha hb' hab, Bool.eq_iff_iff, isCut_iff, isCut_iff, healNet_mem h1 hc]
          exact ⟨fun q => ⟨q, fun q' => g ((linkOf_eq hab e).1 q')⟩, fun q => q.1⟩
theorem Good.passes (h : Good t bs m) (hi : i < 6) (hj : j < 6) : (i = j ∧ passesIn t i j = false) ∨ (i ≠ j ∧ passesIn t i j = !bs.getD (6 * i + j) false) := by
  obtain ⟨h1, h2, h3, h4, h5⟩ := h
  by_cases e : i = j
  · subst e
    exact .inl ⟨rfl, by unfold passesIn; rw [h1, twoB_same]; rfl⟩
  · refine .inr ⟨e, ?_⟩
    unfold passesIn
    rw [h1, twoB_yes hi hj e, h5 i j hi hj e]
    rfl
end
def bs0 : List Bool := List.replicate 36 false
/-- The table's cells. -/
def bsA (bs : List Bool) : Array Value := (bs.map Value.bool).toArray
theorem bsA_set (bs : List Bool) (q : Nat) (v : Bool) : (bsA bs).setIfInBounds q (.bool v) = bsA (bs.set q v) := by
  unfold bsA
  rw [List.map_set, List.setIfInBounds_toArray]
theorem bsA_at {bs : List Bool} {q : Nat} (h : q < bs.length) : (bsA bs)[q]? = some (.bool (bs.getD q false)) := by
  unfold bsA
  rw [List.getElem?_toArray, List.getElem?_map, List.getElem?_eq_getElem h, List.getD_eq_getElem?_getD, List.getElem?_eq_getElem h]
  rfl
theorem good0 : Good zeroN bs0 0 := good_zero
theorem bs0_cells : madeCells #[Value.bool false] (36 * 1) = bsA bs0 := by
  first
    | rfl
    | kernel_rfl
    | (apply Array.toList_inj.1; rw [toList_made _ 1 36 rfl (by decide)]; rfl)
    | (apply Array.toList_inj.1; rw [toList_made _ 1 36 rfl (by decide)]; simp [bsA, bs0])
end Go.Proofs.Ythcagdcbifdfeaa

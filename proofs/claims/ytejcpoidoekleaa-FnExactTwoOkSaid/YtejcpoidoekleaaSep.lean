/-
  Several pieces of own memory side by side: boxes of variables and owned data, no two of them in one block.
-/
import Derived.Test.YtejcpoidoekleaaRepI
namespace Go.Proofs.Ytejcpoidoekleaa
set_option maxRecDepth 100000
open Go.RowKit

inductive Item where
  | blk (p : Nat) (cs : Array Value) (t : TypeId)
  | own (ds : List Dat) (vs : List Value) (fp : List Nat)

def Item.foot : Item → List Nat
  | .blk p _ _ => [p]
  | .own _ _ fp => fp
def Item.holds (w : World) : Item → Prop
  | .blk p cs t => Blk w p cs t
  | .own ds vs fp => Ow w ds vs fp
def foots (is : List Item) : List Nat := is.flatMap Item.foot

/-- All pieces stand, each block is of one piece alone, and all lie from 'base' on. -/
structure Sep (w : World) (base : Nat) (is : List Item) : Prop where
  holds : ∀ (n : Nat) (i : Item), is[n]? = some i → i.holds w
  nodup : (foots is).Nodup
  ge : ∀ p ∈ foots is, base ≤ p

section
variable {w w' : World} {base : Nat} {is : List Item}

theorem Item.lt {i : Item} (h : i.holds w) : ∀ p ∈ i.foot, p < w.heap.size := by
  cases i with
  | blk p cs t => intro q hq; have : q = p := by simpa [Item.foot] using hq
                  subst this; exact Blk.lt h
  | own ds vs fp => exact Ow.lt h
theorem Item.same {i : Item} (h : i.holds w) (hb : ∀ p ∈ i.foot, w'.heap[p]? = w.heap[p]?) : i.holds w' := by
  cases i with
  | blk p cs t => exact (hb p (by simp [Item.foot])).trans h
  | own ds vs fp => exact Ow.same h hb

theorem foot_mem {n : Nat} {i : Item} (h : is[n]? = some i) {p : Nat} (hp : p ∈ i.foot) : p ∈ foots is := List.mem_flatMap.2 ⟨i, List.mem_of_getElem? h, hp⟩

theorem Sep.lt (h : Sep w base is) : ∀ p ∈ foots is, p < w.heap.size := by
  intro p hp
  obtain ⟨i, hi, hp⟩ := List.mem_flatMap.1 hp
  obtain ⟨n, hn⟩ := List.getElem?_of_mem hi
  exact Item.lt (h.holds n i hn) p hp

theorem Sep.nil (w : World) (base : Nat) : Sep w base [] := ⟨fun n i h => by simp at h, by simp [foots], fun p hp => by simp [foots] at hp⟩

theorem Sep.keep (h : Sep w base is) (hb : Below w.heap.size w w') : Sep w' base is :=
  ⟨fun n i hi => Item.same (h.holds n i hi) (fun p hp => hb.block p (Item.lt (h.holds n i hi) p hp)), h.nodup, h.ge⟩

/-- A new variable in a box. -/
theorem Sep.box (h : Sep w base is) (hle : base ≤ w.heap.size) (cs : Array Value) (t : TypeId) : Sep (w.alloc (.cells cs t)) base (.blk w.heap.size cs t :: is) := by
  have hk := h.keep ((Below.refl w.heap.size w).alloc (Nat.le_refl _) (.cells cs t))
  have hlt := h.lt
  refine ⟨fun n i hi => ?_, ?_, fun p hp => ?_⟩
  · cases n with
    | zero => simp at hi; subst hi; exact Blk.new w cs t
    | succ n => exact hk.holds n i (by simpa using hi)
  · show (w.heap.size :: foots is).Nodup
    exact List.nodup_cons.2 ⟨fun hm => by have := hlt _ hm; omega, h.nodup⟩
  · rcases List.mem_cons.1 (show p ∈ w.heap.size :: foots is from hp) with rfl | hp
    · exact hle
    · exact h.ge p hp

/-- New data from a call. -/
theorem Sep.has {ds : List Dat} {vs : List Value} (h : Sep w base is) (hb : Below w.heap.size w w') (ho : Has w' w.heap.size ds vs) (hle : base ≤ w.heap.size) : ∃ fp, Sep w' base (.own ds vs fp :: is) := by
  obtain ⟨fp, ho, hn, hge⟩ := ho
  have hk := h.keep hb
  have hlt := h.lt
  refine ⟨fp, fun n i hi => ?_, ?_, fun p hp => ?_⟩
  · cases n with
    | zero => simp at hi; subst hi; exact ho
    | succ n => exact hk.holds n i (by simpa using hi)
  · show (fp ++ foots is).Nodup
    refine List.nodup_append.2 ⟨hn, h.nodup, fun p hp q hq e => ?_⟩
    have := hge p hp
    have := hlt q hq
    omega
  · rcases List.mem_append.1 (show p ∈ fp ++ foots is from hp) with hp | hp
    · exact Nat.le_trans hle (hge p hp)
    · exact h.ge p hp

theorem Sep.at_ (h : Sep w base is) (n : Nat) {p : Nat} {cs : Array Value} {t : TypeId} (hn : is[n]? = some (.blk p cs t)) : Blk w p cs t := h.holds n _ hn
theorem Sep.own_ (h : Sep w base is) (n : Nat) {ds : List Dat} {vs : List Value} {fp : List Nat} (hn : is[n]? = some (.own ds vs fp)) : Ow w ds vs fp := h.holds n _ hn

theorem foots_split (is : List Item) {n : Nat} {i : Item} (hn : is[n]? = some i) : foots is = foots (is.take n) ++ (i.foot ++ foots (is.drop (n + 1))) := by
  have hlt : n < is.length := by
    rcases Nat.lt_or_ge n is.length with h | h
    · exact h
    · rw [List.getElem?_eq_none h] at hn; cases hn
  have e1 : is = is.take n ++ (is[n] :: is.drop (n + 1)) := by rw [← List.drop_eq_getElem_cons hlt, List.take_append_drop]
  have e2 : is[n] = i := by rw [List.getElem?_eq_getElem hlt] at hn; injection hn
  unfold foots
  conv => lhs; rw [e1, e2]
  rw [List.flatMap_append, List.flatMap_cons]

theorem Sep.nodup_own (h : Sep w base is) (n : Nat) {ds : List Dat} {vs : List Value} {fp : List Nat} (hn : is[n]? = some (.own ds vs fp)) : fp.Nodup := by
  have h1 := h.nodup
  rw [foots_split is hn, List.nodup_append, List.nodup_append] at h1
  exact h1.2.1.1

/-- One piece of data has been changed in its own blocks. -/
theorem Sep.mark (h : Sep w base is) (n : Nat) {ds ds' : List Dat} {vs : List Value} {fp : List Nat} (hn : is[n]? = some (.own ds vs fp)) (ht : Touch fp w w') (ho : Ow w' ds' vs fp) : Sep w' base (is.set n (.own ds' vs fp)) := by
  have hlt : n < is.length := by
    rcases Nat.lt_or_ge n is.length with h | h
    · exact h
    · rw [List.getElem?_eq_none h] at hn; cases hn
  have hf : foots (is.set n (.own ds' vs fp)) = foots is := by
    rw [foots_split is hn, List.set_eq_take_append_cons_drop, if_pos hlt]
    unfold foots
    rw [List.flatMap_append, List.flatMap_cons]
    rfl
  refine ⟨fun m i hi => ?_, by rw [hf]; exact h.nodup, by rw [hf]; exact h.ge⟩
  by_cases hmn : n = m
  · subst hmn
    rw [List.getElem?_set_self hlt] at hi
    injection hi with hi
    subst hi
    exact ho
  · rw [List.getElem?_set_ne hmn] at hi
    have hh := h.holds m i hi
    refine Item.same hh (fun p hp => ht.block p (Item.lt hh p hp) (fun hm => ?_))
    -- p would be of two pieces
    have hnd := h.nodup
    rw [foots_split is hn] at hnd
    have hpm : p ∈ foots (is.take n) ∨ p ∈ foots (is.drop (n + 1)) := by
      rcases Nat.lt_or_gt_of_ne hmn with h1 | h1
      · right
        exact foot_mem (n := m - (n + 1)) (i := i) (by rw [List.getElem?_drop]; rw [show n + 1 + (m - (n + 1)) = m by omega]; exact hi) hp
      · left
        exact foot_mem (n := m) (i := i) (by rw [List.getElem?_take, if_pos h1]; exact hi) hp
    rw [List.nodup_append] at hnd
    rcases hpm with h1 | h1
    · exact hnd.2.2 p h1 p (List.mem_append_left _ hm) rfl
    · have h2 := hnd.2.1
      rw [List.nodup_append] at h2
      exact h2.2.2 p hm p h1 rfl

theorem Sep.below (h : Sep w base is) (n : Nat) {ds : List Dat} {vs : List Value} {fp : List Nat} (hn : is[n]? = some (.own ds vs fp)) (ht : Touch fp w w') (hle : base ≤ w.heap.size) : Below base w w' :=
  ht.below (fun p hp => h.ge p (foot_mem hn hp)) hle

/-- Two pieces of data have become one, in blocks of theirs or in a new one. -/
theorem Sep.merge {d1 d2 ds : List Dat} {v1 v2 vs : List Value} {fp f2 fp3 : List Nat} (h : Sep w base (.own d1 v1 fp :: .own d2 v2 f2 :: is)) (ht : Touch fp w w') (ho : Ow w' ds vs fp3) (nd : fp3.Nodup)
    (hsub : ∀ p ∈ fp3, p ∈ fp ∨ p ∈ f2 ∨ p = w.heap.size) (hle : base ≤ w.heap.size) : Sep w' base (.own ds vs fp3 :: is) := by
  have hnd := h.nodup
  have hlt := h.lt
  have hall : foots (.own d1 v1 fp :: .own d2 v2 f2 :: is) = fp ++ (f2 ++ foots is) := rfl
  rw [hall] at hnd hlt
  rw [List.nodup_append, List.nodup_append] at hnd
  obtain ⟨_, ⟨_, hni, h2⟩, h1⟩ := hnd
  have hne : ∀ p ∈ foots is, p ∉ fp := fun p hp hm => h1 p hm p (List.mem_append_right _ hp) rfl
  refine ⟨fun n i hi => ?_, ?_, fun p hp => ?_⟩
  · cases n with
    | zero => simp at hi; subst hi; exact ho
    | succ n =>
      have hi' : is[n]? = some i := by simpa using hi
      have hh := h.holds (n + 2) i (by simpa using hi')
      exact Item.same hh (fun p hp => ht.block p (Item.lt hh p hp) (hne p (foot_mem hi' hp)))
  · show (fp3 ++ foots is).Nodup
    refine List.nodup_append.2 ⟨nd, hni, fun p hp q hq e => ?_⟩
    subst e
    rcases hsub p hp with h3 | h3 | h3
    · exact hne p hq h3
    · exact h2 p h3 p hq rfl
    · have := hlt p (List.mem_append_right _ (List.mem_append_right _ hq))
      omega
  · rcases List.mem_append.1 (show p ∈ fp3 ++ foots is from hp) with hp | hp
    · rcases hsub p hp with h3 | h3 | h3
      · exact h.ge p (List.mem_append_left _ h3)
      · exact h.ge p (List.mem_append_right _ (List.mem_append_left _ h3))
      · omega
    · exact h.ge p (List.mem_append_right _ (List.mem_append_right _ hp))

/-- A cell of a box is set. -/
theorem Sep.put (h : Sep w base is) (n : Nat) {p : Nat} {cs : Array Value} {t : TypeId} (hn : is[n]? = some (.blk p cs t)) (i : Nat) (u : Value) : Sep (w.setCell ⟨p, i, none⟩ u) base (is.set n (.blk p (cs.setIfInBounds i u) t)) := by
  have hlt : n < is.length := by
    rcases Nat.lt_or_ge n is.length with h | h
    · exact h
    · rw [List.getElem?_eq_none h] at hn; cases hn
  have hf : foots (is.set n (.blk p (cs.setIfInBounds i u) t)) = foots is := by
    rw [foots_split is hn, List.set_eq_take_append_cons_drop, if_pos hlt]
    unfold foots
    rw [List.flatMap_append, List.flatMap_cons]
    rfl
  refine ⟨fun m j hj => ?_, by rw [hf]; exact h.nodup, by rw [hf]; exact h.ge⟩
  by_cases hmn : n = m
  · subst hmn
    rw [List.getElem?_set_self hlt] at hj
    injection hj with hj
    subst hj
    exact (h.at_ n hn).set_ i u
  · rw [List.getElem?_set_ne hmn] at hj
    have hh := h.holds m j hj
    refine Item.same hh (fun q hq => Below.heap_setCell w ⟨p, i, none⟩ u q (fun e => ?_))
    have hqp : q = p := e
    subst hqp
    have hnd := h.nodup
    rw [foots_split is hn] at hnd
    have hpm : q ∈ foots (is.take n) ∨ q ∈ foots (is.drop (n + 1)) := by
      rcases Nat.lt_or_gt_of_ne hmn with h1 | h1
      · right
        exact foot_mem (n := m - (n + 1)) (i := j) (by rw [List.getElem?_drop]; rw [show n + 1 + (m - (n + 1)) = m by omega]; exact hj) hq
      · left
        exact foot_mem (n := m) (i := j) (by rw [List.getElem?_take, if_pos h1]; exact hj) hq
    rw [List.nodup_append] at hnd
    rcases hpm with h1 | h1
    · exact hnd.2.2 q h1 q (List.mem_append_left _ (by simp [Item.foot])) rfl
    · have h2 := hnd.2.1
      rw [List.nodup_append] at h2
      exact h2.2.2 q (by simp [Item.foot]) q h1 rfl
theorem Sep.drop (h : Sep w base is) (n : Nat) : Sep w base (is.drop n) := by
  have hf : foots is = foots (is.take n) ++ foots (is.drop n) := by
    unfold foots
    rw [← List.flatMap_append, List.take_append_drop]
  refine ⟨fun m i hi => h.holds (n + m) i (by rw [List.getElem?_drop] at hi; exact hi), ?_, fun p hp => h.ge p (by rw [hf]; exact List.mem_append_right _ hp)⟩
  have := h.nodup
  rw [hf, List.nodup_append] at this
  exact this.2.1
theorem Sep.swap {a b : Item} (h : Sep w base (a :: b :: is)) : Sep w base (b :: a :: is) := by
  have hf : foots (a :: b :: is) = a.foot ++ (b.foot ++ foots is) := rfl
  have hf' : foots (b :: a :: is) = b.foot ++ (a.foot ++ foots is) := rfl
  have hnd := h.nodup
  rw [hf, List.nodup_append, List.nodup_append] at hnd
  obtain ⟨n1, ⟨n2, n3, d23⟩, d1⟩ := hnd
  refine ⟨fun n i hi => ?_, ?_, fun p hp => ?_⟩
  · match n, hi with
    | 0, hi => exact h.holds 1 i hi
    | 1, hi => exact h.holds 0 i hi
    | n + 2, hi => exact h.holds (n + 2) i hi
  · rw [hf', List.nodup_append, List.nodup_append]
    refine ⟨n2, ⟨n1, n3, fun p hp q hq e => d1 p hp q (List.mem_append_right _ hq) e⟩, fun p hp q hq e => ?_⟩
    rcases List.mem_append.1 hq with hq | hq
    · exact d1 q hq p (List.mem_append_left _ hp) e.symm
    · exact d23 p hp q hq e
  · refine h.ge p ?_
    rw [hf'] at hp
    rw [hf]
    simp only [List.mem_append] at hp ⊢
    rcases hp with hp | hp | hp
    · exact .inr (.inl hp)
    · exact .inl hp
    · exact .inr (.inr hp)
theorem Sep.apart {d1 d2 : List Dat} {v1 v2 : List Value} {f1 f2 : List Nat} (h : Sep w base (.own d1 v1 f1 :: .own d2 v2 f2 :: is)) : ∀ p ∈ f2, p ∉ f1 := by
  have hnd := h.nodup
  have hall : foots (.own d1 v1 f1 :: .own d2 v2 f2 :: is) = f1 ++ (f2 ++ foots is) := rfl
  rw [hall, List.nodup_append] at hnd
  exact fun p hp hm => hnd.2.2 p hm p (List.mem_append_left _ hp) rfl
/-- Data without memory. -/
theorem Sep.own0 {ds : List Dat} {vs : List Value} (h : Sep w base is) (ho : Ow w ds vs []) : Sep w base (.own ds vs [] :: is) := by
  refine ⟨fun n i hi => ?_, h.nodup, h.ge⟩
  cases n with
  | zero => simp at hi; subst hi; exact ho
  | succ n => exact h.holds n i (by simpa using hi)
/-- A piece of data in two. -/
theorem Sep.split {d1 d2 : List Dat} {vs : List Value} {fp : List Nat} (h : Sep w base (.own (d1 ++ d2) vs fp :: is)) : ∃ v1 v2 f1 f2, vs = v1 ++ v2 ∧ Sep w base (.own d2 v2 f2 :: .own d1 v1 f1 :: is) := by
  obtain ⟨v1, v2, f1, f2, rfl, rfl, o1, o2⟩ := (h.own_ 0 rfl).split
  have hf : foots (.own (d1 ++ d2) (v1 ++ v2) (f1 ++ f2) :: is) = f1 ++ f2 ++ foots is := rfl
  have hf' : foots (.own d2 v2 f2 :: .own d1 v1 f1 :: is) = f2 ++ (f1 ++ foots is) := rfl
  have hnd := h.nodup
  rw [hf, List.append_assoc, List.nodup_append, List.nodup_append] at hnd
  obtain ⟨n1, ⟨n2, n3, d23⟩, d1'⟩ := hnd
  refine ⟨v1, v2, f1, f2, rfl, fun n i hi => ?_, ?_, fun p hp => ?_⟩
  · match n, hi with
    | 0, hi => simp at hi; subst hi; exact o2
    | 1, hi => simp at hi; subst hi; exact o1
    | n + 2, hi => exact h.holds (n + 1) i (by simpa using hi)
  · rw [hf', List.nodup_append, List.nodup_append]
    refine ⟨n2, ⟨n1, n3, fun p hp q hq e => d1' p hp q (List.mem_append_right _ hq) e⟩, fun p hp q hq e => ?_⟩
    rcases List.mem_append.1 hq with hq | hq
    · exact d1' q hq p (List.mem_append_left _ hp) e.symm
    · exact d23 p hp q hq e
  · refine h.ge p ?_
    rw [hf'] at hp
    rw [hf]
    simp only [List.mem_append] at hp ⊢
    rcases hp with hp | hp | hp
    · exact .inl (.inr hp)
    · exact .inl (.inl hp)
    · exact .inr hp
/-- The first two pieces together. -/
theorem Sep.pair {d1 d2 : List Dat} {v1 v2 : List Value} {f1 f2 : List Nat} (h : Sep w base (.own d1 v1 f1 :: .own d2 v2 f2 :: is)) : Has w base (d2 ++ d1) (v2 ++ v1) := by
  have hnd := h.nodup
  have hall : foots (.own d1 v1 f1 :: .own d2 v2 f2 :: is) = f1 ++ (f2 ++ foots is) := rfl
  rw [hall, List.nodup_append, List.nodup_append] at hnd
  refine ⟨f2 ++ f1, (h.own_ 1 rfl).append (h.own_ 0 rfl), List.nodup_append.2 ⟨hnd.2.1.1, hnd.1, fun p hp q hq e => hnd.2.2 q hq p (List.mem_append_left _ hp) e.symm⟩, fun p hp => ?_⟩
  rcases List.mem_append.1 hp with hp | hp
  · exact h.ge p (by rw [hall]; exact List.mem_append_right _ (List.mem_append_left _ hp))
  · exact h.ge p (by rw [hall]; exact List.mem_append_left _ hp)
/-- The first piece, as it is handed back. -/
theorem Sep.first {ds : List Dat} {vs : List Value} {fp : List Nat} (h : Sep w base (.own ds vs fp :: is)) : Has w base ds vs :=
  ⟨fp, h.own_ 0 rfl, h.nodup_own 0 rfl, fun p hp => h.ge p (List.mem_append_left _ hp)⟩
end

end Go.Proofs.Ytejcpoidoekleaa

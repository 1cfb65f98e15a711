/-
  Pieces side by side: taken in another order; an element stored into a slice of theirs.
-/
import Derived.Test.YtejcpoidoekleaaSep
import Derived.Test.YtejcpoidoekleaaRepM
namespace Go.Proofs.Ytejcpoidoekleaa
set_option maxRecDepth 100000
open Go.RowKit

section
variable {w w' : World} {base : Nat} {is is' : List Item}

theorem Sep.of_perm (h : Sep w base is) (hp : is.Perm is') : Sep w base is' := by
  have hf : (foots is).Perm (foots is') := hp.flatMap_right _
  refine ⟨fun n i hi => ?_, hf.nodup_iff.1 h.nodup, fun p hm => h.ge p (hf.mem_iff.2 hm)⟩
  have hm : i ∈ is := hp.mem_iff.2 (List.mem_of_getElem? hi)
  obtain ⟨k, hk⟩ := List.getElem?_of_mem hm
  exact h.holds k i hk

/-- The third piece comes first. -/
theorem Sep.third {a b c : Item} (h : Sep w base (a :: b :: c :: is)) : Sep w base (c :: a :: b :: is) :=
  h.of_perm ((List.Perm.cons a (List.Perm.swap c b is)).trans (List.Perm.swap c a (b :: is)))
theorem Sep.tail {a : Item} (h : Sep w base (a :: is)) : Sep w base is := h.drop 1

theorem Sep.store {α : Type} {f : α → List Dat} {e : TypeId} {k g n c j : Nat} {l : List α} {fp f2 : List Nat} {x : α} {es : List Value} (hk : ∀ x, (f x).length = k) (k0 : 0 < k)
    (h : Sep w base (.own [lst e k f l] [.slice (some ⟨g, 0, none⟩) n c] fp :: .own (f x) es f2 :: is)) (hj : j < l.length) (hle : base ≤ w.heap.size) :
    ∃ fp', Sep (puts w g (j * k) es) base (.own [lst e k f (l.set j x)] [.slice (some ⟨g, 0, none⟩) n c] fp' :: is) ∧ Touch fp w (puts w g (j * k) es) := by
  have o1 := h.own_ 0 rfl
  obtain ⟨ht, fp', ho, hn, hsub⟩ := o1.store hk k0 (h.nodup_own 0 rfl) hj (h.own_ 1 rfl) (h.nodup_own 1 rfl) h.apart
  obtain ⟨us, fp1, _, _, hfp⟩ := o1.lst hk k0
  have hg : g ∈ fp := by rw [hfp]; simp [Value.ownBlock]
  have ht' : Touch fp w (puts w g (j * k) es) := ht.mono fun p hp => by
    have : p = g := by simpa using hp
    rw [this]
    exact hg
  exact ⟨fp', h.merge ht' ho hn (fun p hp => (hsub p hp).elim .inl (fun h => .inr (.inl h))) hle, ht'⟩

/-- The cells of an element of the first piece. -/
theorem Sep.slot {α : Type} {f : α → List Dat} {e : TypeId} {k g n c j : Nat} {l : List α} {fp : List Nat} (hk : ∀ x, (f x).length = k) (k0 : 0 < k)
    (h : Sep w base (.own [lst e k f l] [.slice (some ⟨g, 0, none⟩) n c] fp :: is)) (hj : j < l.length) : ∃ es : List Value, es.length = k ∧ (∀ i, i < k → w.cell? ⟨g, j * k + i, none⟩ = es[i]?) ∧ ∀ i, w.frozen? ⟨g, i, none⟩ = false :=
  (h.own_ 0 rfl).slots hk k0 hj
end

end Go.Proofs.Ytejcpoidoekleaa

/-
  Walks of the laws' own draws: own pieces side by side, the dice, and nothing written but these.
-/
import Derived.Test.YtepnghjmpbfmcaaKA
import Derived.Test.YtepnghjmpbfmcaaDice
import Derived.Maps.Range
namespace Go.Proofs.Ytepnghjmpbfmcaa
set_option maxRecDepth 100000
open Go.RowKit

/-- From world w on: the pieces stand from w's end on, the cursor p stands, nothing that was there is written but p. -/
structure DrL (w W : World) (B p : Nat) (is : List Item) : Prop where
  sep : Sep W w.heap.size is
  cur : LCur W B p
  grown : w.grownBy W (some p)
  lt : p < w.heap.size

section
variable {w W W' : World} {B p : Nat} {is is' : List Item} {ds ds' : List Dat} {vs vs' : List Value} {fp : List Nat}
theorem DrL.start (h : LCur w B p) : DrL w w B p [] := ⟨Sep.nil _ _, h, World.grownBy.refl w _, h.lt⟩
theorem DrL.boxAt (h : DrL w W B p is) (q : Nat) (hq : W.heap.size = q) (cs : Array Value) (t : TypeId) : DrL w (W.alloc (.cells cs t)) B p (.blk q cs t :: is) := by
  subst hq
  exact ⟨h.sep.box h.grown.size cs t, h.cur.kept (World.grownBy_alloc W _ none) (fun k hk => by cases hk), h.grown.trans (World.grownBy_alloc W _ (some p)), h.lt⟩
theorem DrL.put (h : DrL w W B p is) (n : Nat) {q : Nat} {cs : Array Value} {t : TypeId} (hn : is[n]? = some (.blk q cs t)) (i : Nat) (u : Value) : DrL w (W.setCell ⟨q, i, none⟩ u) B p (is.set n (.blk q (cs.setIfInBounds i u) t)) := by
  have hq : w.heap.size ≤ q := h.sep.ge q (foot_mem hn (by simp [Item.foot]))
  have hp := h.lt
  exact ⟨h.sep.put n hn i u, h.cur.kept (grown_setCell W q i u) (fun y hy => by injection hy with hy; omega), h.grown.andThen (grown_setCell W q i u) (fun y hy => .inl (by injection hy with hy; omega)), hp⟩
theorem DrL.keep (h : DrL w W B p is) (b : Below W.heap.size W W') : DrL w W' B p is :=
  ⟨h.sep.keep b, h.cur.below b, h.grown.trans (grownBy_of_below b (some p)), h.lt⟩
theorem DrL.has (h : DrL w W B p is) (b : Below W.heap.size W W') (o : Has W' W.heap.size ds vs) : ∃ fp, DrL w W' B p (.own ds vs fp :: is) := by
  obtain ⟨fp, S⟩ := h.sep.has b o h.grown.size
  exact ⟨fp, S, h.cur.below b, h.grown.trans (grownBy_of_below b (some p)), h.lt⟩
theorem DrL.draw (h : DrL w W B p is) (c : LCur W' B p) (g : W.grownBy W' (some p)) : DrL w W' B p is :=
  ⟨h.sep.grown g h.lt, c, h.grown.trans g, h.lt⟩
theorem DrL.drawHas (h : DrL w W B p is) (c : LCur W' B p) (g : W.grownBy W' (some p)) (o : Has W' W.heap.size ds vs) : ∃ fp, DrL w W' B p (.own ds vs fp :: is) := by
  obtain ⟨fp, S⟩ := (h.sep.grown g h.lt).more o h.sep.lt h.grown.size
  exact ⟨fp, S, c, h.grown.trans g, h.lt⟩
theorem DrL.drew (h : DrL w W B p is) : DrL w W.drew B p is := h.keep ((Below.refl _ _).drew)
theorem DrL.with_ (h : DrL w W B p is) (S : Sep W w.heap.size is') : DrL w W B p is' := ⟨S, h.cur, h.grown, h.lt⟩
end

end Go.Proofs.Ytepnghjmpbfmcaa

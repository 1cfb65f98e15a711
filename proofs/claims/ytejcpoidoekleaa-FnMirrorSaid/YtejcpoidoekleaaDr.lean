/-
  Walks of draws: own pieces side by side, the cursor, and nothing written but these.
-/
import Derived.Test.YtejcpoidoekleaaKH
namespace Go.Proofs.Ytejcpoidoekleaa
set_option maxRecDepth 100000
open Go.RowKit

/-- From world w on: the pieces stand from w's end on, the cursor p stands, nothing that was there is written but p. -/
structure Dr (w W : World) (B p : Nat) (is : List Item) : Prop where
  sep : Sep W w.heap.size is
  cur : Cur W B p
  grown : w.grownBy W (some p)
  lt : p < w.heap.size

section
variable {w W W' : World} {B p : Nat} {is is' : List Item} {ds ds' : List Dat} {vs vs' : List Value} {fp : List Nat}
theorem Dr.start (h : Cur w B p) : Dr w w B p [] := ⟨Sep.nil _ _, h, World.grownBy.refl w _, h.lt⟩
theorem Dr.boxAt (h : Dr w W B p is) (q : Nat) (hq : W.heap.size = q) (cs : Array Value) (t : TypeId) : Dr w (W.alloc (.cells cs t)) B p (.blk q cs t :: is) := by
  subst hq
  exact ⟨h.sep.box h.grown.size cs t, cur_alloc h.cur _, h.grown.trans (World.grownBy_alloc W _ (some p)), h.lt⟩
theorem Dr.put (h : Dr w W B p is) (n : Nat) {q : Nat} {cs : Array Value} {t : TypeId} (hn : is[n]? = some (.blk q cs t)) (i : Nat) (u : Value) : Dr w (W.setCell ⟨q, i, none⟩ u) B p (is.set n (.blk q (cs.setIfInBounds i u) t)) := by
  have hq : w.heap.size ≤ q := h.sep.ge q (foot_mem hn (by simp [Item.foot]))
  have hp := h.lt
  exact ⟨h.sep.put n hn i u, h.cur.kept (grown_setCell W q i u) (fun y hy => by injection hy with hy; omega), h.grown.andThen (grown_setCell W q i u) (fun y hy => .inl (by injection hy with hy; omega)), hp⟩
theorem Dr.keep (h : Dr w W B p is) (b : Below W.heap.size W W') : Dr w W' B p is :=
  ⟨h.sep.keep b, h.cur.below b, h.grown.trans (grownBy_of_below b (some p)), h.lt⟩
theorem Dr.has (h : Dr w W B p is) (b : Below W.heap.size W W') (o : Has W' W.heap.size ds vs) : ∃ fp, Dr w W' B p (.own ds vs fp :: is) := by
  obtain ⟨fp, S⟩ := h.sep.has b o h.grown.size
  exact ⟨fp, S, h.cur.below b, h.grown.trans (grownBy_of_below b (some p)), h.lt⟩
theorem Dr.draw (h : Dr w W B p is) (c : Cur W' B p) (g : W.grownBy W' (some p)) : Dr w W' B p is :=
  ⟨h.sep.grown g h.lt, c, h.grown.trans g, h.lt⟩
theorem Dr.drawHas (h : Dr w W B p is) (c : Cur W' B p) (g : W.grownBy W' (some p)) (o : Has W' W.heap.size ds vs) : ∃ fp, Dr w W' B p (.own ds vs fp :: is) := by
  obtain ⟨fp, S⟩ := (h.sep.grown g h.lt).more o h.sep.lt h.grown.size
  exact ⟨fp, S, c, h.grown.trans g, h.lt⟩
theorem Dr.drew (h : Dr w W B p is) : Dr w W.drew B p is := h.keep ((Below.refl _ _).drew)
theorem Dr.with_ (h : Dr w W B p is) (S : Sep W w.heap.size is') : Dr w W B p is' := ⟨S, h.cur, h.grown, h.lt⟩
/-- Two pieces as one. -/
theorem Sep.join {base : Nat} {f1 f2 : List Nat} (h : Sep W base (.own ds' vs' f2 :: .own ds vs f1 :: is)) : Sep W base (.own (ds ++ ds') (vs ++ vs') (f1 ++ f2) :: is) := by
  have hnd := h.nodup
  have e1 : foots (.own ds' vs' f2 :: .own ds vs f1 :: is) = f2 ++ (f1 ++ foots is) := rfl
  have e2 : foots (.own (ds ++ ds') (vs ++ vs') (f1 ++ f2) :: is) = (f1 ++ f2) ++ foots is := rfl
  have hp : (foots (.own ds' vs' f2 :: .own ds vs f1 :: is)).Perm (foots (.own (ds ++ ds') (vs ++ vs') (f1 ++ f2) :: is)) := by
    rw [e1, e2, ← List.append_assoc]
    exact List.Perm.append_right _ List.perm_append_comm
  refine ⟨fun n i hi => ?_, hp.nodup_iff.1 hnd, fun q hq => h.ge q (hp.mem_iff.2 hq)⟩
  cases n with
  | zero => simp at hi; subst hi; exact (h.own_ 1 rfl).append (h.own_ 0 rfl)
  | succ n => exact h.holds (n + 2) i (by simpa using hi)
theorem RdF.down {base base' : Nat} (h : RdF w base ds vs) (hb : base' ≤ base) : RdF w base' ds vs := fun w' h1 h2 => h w' h1 fun q hq hlt => h2 q (by omega) hlt
theorem RdF.append {base : Nat} (h : RdF w base ds vs) (h' : RdF w base ds' vs') : RdF w base (ds ++ ds') (vs ++ vs') := fun w' h1 h2 => (h w' h1 h2).append (h' w' h1 h2)
end

end Go.Proofs.Ytejcpoidoekleaa

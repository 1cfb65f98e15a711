/- Parts of my texts: IMap Tab. -/
import Derived.Test.YthjjdelpdiipdaaGreatDoorMX17
import Derived.Maps.OwnSet
import Derived.Maps.OwnIn
import Derived.Maps.RangeWalk
import Derived.Sort.MapsRangeIn
namespace Go.Proofs.YthjjdelpdiipdaaGreatDoor
set_option maxRecDepth 100000
set_option linter.unusedVariables false
open Go.RowKit
def selfR (v : Value) : Option (DataW Value × List MemPlace) := some (.held v, [])
def w64 (x : Int) : Prop := (Lit.int .i64 x).wf = true
def IMap (P : Program) (k : TypeId) (w : World) (b n c : Nat) (f : Int → Option Value) : Prop :=
 ∃ D : DataW Value, w.ownsMap P k selfR b n D ∧ Maps.Tidy D ∧ Maps.size D = c ∧ ∀ x, w64 x → Maps.has D (.int .i64 x) = (f x).isSome ∧ ∀ z, D.atKey (.int .i64 x) (.held z) = .held ((f x).getD z)
def putF (f : Int → Option Value) (x : Int) (v : Value) : Int → Option Value := fun y => if y = x then some v else f y
def delF (f : Int → Option Value) (x : Int) : Int → Option Value := fun y => if y = x then none else f y
section
variable {P : Program} {k t e : TypeId} {w w' : World} {b n c : Nat} {f : Int → Option Value}
theorem IMap.made (P : Program) (k : TypeId) (w : World) : IMap P k (w.alloc (.map #[] 0)) w.heap.size 0 0 (fun _ => none) :=
 ⟨.map [], World.ownsMap_made w P k selfR, Maps.tidy_empty, rfl, fun _ _ => ⟨rfl, fun _ => rfl⟩⟩
theorem IMap.same (h : IMap P k w b n c f) (hb : w'.heap[b]? = w.heap[b]?) : IMap P k w' b n c f := by
 obtain ⟨D, ⟨es, clock, h1, h2⟩, h3⟩ := h
 exact ⟨D, ⟨es, clock, hb.trans h1, h2⟩, h3⟩
theorem IMap.lt (h : IMap P k w b n c f) : b < w.heap.size := by
 obtain ⟨D, ⟨es, clock, h1, _⟩, _⟩ := h
 exact (Array.getElem?_eq_some_iff.1 h1).1
theorem IMap.keep {B : Nat} (h : IMap P k w b n c f) (hw : Below B w w') (hb : b < B) : IMap P k w' b n c f := h.same (hw.block b hb)
theorem IMap.touch {S : List Nat} (h : IMap P k w b n c f) (t : Touch S w w') (hS : ∀ p ∈ S, p < w.heap.size → ∃ o : Obj, w.heap[p]? = some o ∧ o.isCells = true) : IMap P k w' b n c f := by
 obtain ⟨D, ⟨es, clock, h1, h2⟩, h3⟩ := h
 exact ⟨D, ⟨es, clock, (keeps_touch t hS).same b _ h1 rfl, h2⟩, h3⟩
theorem isKey64 (x : Int) (P : Program) (k : TypeId) (K : Maps.Keyed P k) (hk : P.underlying k = some (.int .i64)) (hx : w64 x) : WideAt.IsKeyLit (.int .i64 x) := K.key (Maps.keyOf_int_mk hk hx)
theorem IMap.put (h : IMap P k w b n c f) (hk : P.underlying k = some (.int .i64)) (ht : P.underlying t = some (.map k e)) (hn : n < maxLen) {x : Int} (hx : w64 x) (v : Value) :
    ∃ w', (Instr.mapUpdate t (.map (some b)) (.int .i64 x) v).run P w = .ok () w' ∧ IMap P k w' b (n + 1) (if (f x).isSome = true then c else c + 1) (putF f x v) ∧ w.grownBy w' (some b) := by
 obtain ⟨D, h1, h2, h3, h4⟩ := h
 have K := Maps.int_keyed hk
 have hl := isKey64 x P k K hk hx
 obtain ⟨w', r1, r2, r3⟩ := h1.update K ht hn (Maps.keyOf_int_mk hk hx) (show selfR v = some (.held v, []) from rfl)
 refine ⟨w', r1, ⟨_, r2, h2.put hl _, ?_, fun y hy => ?_⟩, r3⟩
 · rw [Maps.size_put h2, (h4 x hx).1, h3]
 · unfold putF
   by_cases e : y = x
   · subst e
     rw [if_pos rfl]
     exact ⟨Maps.has_put_same h2.isMap hl _, fun z => Maps.atKey_put_same h2.isMap hl _ _⟩
   · have hne : Lit.int .i64 y ≠ Lit.int .i64 x := fun h => e (by injection h)
     rw [if_neg e, Maps.has_put_other hne]
     exact ⟨(h4 y hy).1, fun z => by rw [Maps.atKey_put_other hne]; exact (h4 y hy).2 z⟩
theorem IMap.del (h : IMap P k w b n c f) (hk : P.underlying k = some (.int .i64)) (ht : P.underlying t = some (.map k e)) {x : Int} (hx : w64 x) (ty : TypeId) :
    ∃ w', (Builtin.delete_ #[t, k] ty #[.map (some b), .int .i64 x]).run P w = .ok (.tuple #[]) w' ∧ IMap P k w' b n (if (f x).isSome = true then c - 1 else c) (delF f x) ∧ w.grownBy w' (some b) := by
 obtain ⟨D, h1, h2, h3, h4⟩ := h
 have K := Maps.int_keyed hk
 obtain ⟨w', r1, r2, r3⟩ := h1.drop K ht (Maps.keyOf_int_mk hk hx) ty
 refine ⟨w', r1, ⟨_, r2, h2.del _, ?_, fun y hy => ?_⟩, r3.grown⟩
 · have := Maps.size_del (k := Lit.int .i64 x) h2
   rw [(h4 x hx).1, h3] at this
   split at this <;> split <;> simp_all <;> omega
 · unfold delF
   by_cases e : y = x
   · subst e
     rw [if_pos rfl]
     exact ⟨Maps.has_del_same, fun z => Maps.atKey_del_same _⟩
   · have hne : Lit.int .i64 y ≠ Lit.int .i64 x := fun h => e (by injection h)
     rw [if_neg e, Maps.has_del_other hne]
     exact ⟨(h4 y hy).1, fun z => by rw [Maps.atKey_del_other hne]; exact (h4 y hy).2 z⟩
theorem IMap.len (h : IMap P k w b n c f) (ht : P.underlying t = some (.map k e)) (ty : TypeId) : (Builtin.len_ #[t] ty #[.map (some b)]).run P w = .ok (.int .i64 (c : Int)) w := by
 obtain ⟨D, h1, _, h3, _⟩ := h
 have := h1.len ht ty
 rw [h3] at this
 exact this
end
theorem wpList_putF {P : Program} {k e : TypeId} {w : World} {b n c : Nat} {f : Int → Option Value} {ops : Array Oper} {rest : List Oper} {o : Oper} {a : Act} {Q : Exit → Act → World → Prop}
    (hg : o.guard = none) (m x v : Operand) (t : TypeId) (hop : o.op = Op.mapUpdate t m x v) (hk : P.underlying k = some (.int .i64)) (ht : P.underlying t = some (.map k e)) (hm : a.eval m = .map (some b)) (h : IMap P k w b n c f) (hn : n < maxLen)
    (y : Int) (val : Value) (hx : a.eval x = .int .i64 y) (hv : a.eval v = val) (hy : w64 y)
    (hK : ∀ w', IMap P k w' b (n + 1) (if (f y).isSome = true then c else c + 1) (putF f y val) → w.grownBy w' (some b) → wpList P ops Q rest (a.put o.dst undef) w') :
    wpList P ops Q (o :: rest) a w := by
 refine wpList_plain hg fun K' hK' => ?_
 obtain ⟨w', hrun, r1, r2⟩ := h.put hk ht hn hy val
 unfold Oper.wp
 simp [execOp, hop, hm, hx, hv, hrun, Result.andThen]
 exact hK' _ _ (hK w' r1 r2)
theorem wpList_delF {P : Program} {k e : TypeId} {w : World} {b n c : Nat} {f : Int → Option Value} {ops : Array Oper} {rest : List Oper} {o : Oper} {a : Act} {Q : Exit → Act → World → Prop}
    (hg : o.guard = none) (m x : Operand) (t : TypeId) (hop : o.op = Op.call { callee := Callee.builtin Builtin.delete, args := #[m, x], argTypes := #[t, k] }) (hk : P.underlying k = some (.int .i64)) (ht : P.underlying t = some (.map k e)) (hm : a.eval m = .map (some b)) (h : IMap P k w b n c f)
    (y : Int) (hx : a.eval x = .int .i64 y) (hy : w64 y)
    (hK : ∀ w', IMap P k w' b n (if (f y).isSome = true then c - 1 else c) (delF f y) → w.grownBy w' (some b) → wpList P ops Q rest (a.put o.dst (.tuple #[])) w') :
    wpList P ops Q (o :: rest) a w := by
 refine wpList_plain hg fun K' hK' => ?_
 obtain ⟨w', hrun, r1, r2⟩ := h.del hk ht hy o.type
 unfold Oper.wp
 simp [execOp, hop, resolve, invoke, builtin, hm, hx, hrun, Result.andThen]
 exact hK' _ _ (hK w' r1 r2)
def mrkV (x : MarkM) : Value := .agg #[.int .i64 x.mc, .int .i64 x.ms, .int .i64 x.mi]
def tabF (l : List MarkM) (x : Int) : Option Value := (l.find? fun m => m.mi == x).map mrkV
def Apart (l : List MarkM) : Prop := l.Pairwise (fun a b => a.mi ≠ b.mi)
def delT (l : List MarkM) (i : Int) : List MarkM := l.filter fun m => decide (m.mi ≠ i)
def putT (l : List MarkM) (x : MarkM) : List MarkM := delT l x.mi ++ [x]
theorem tabF_any (l : List MarkM) (x : Int) : (tabF l x).isSome = l.any fun m => m.mi == x := by
 unfold tabF
 rw [Option.isSome_map, Bool.eq_iff_iff, List.find?_isSome, List.any_eq_true]
theorem tabF_at {l : List MarkM} (h : Apart l) {m : MarkM} (hm : m ∈ l) : tabF l m.mi = some (mrkV m) := by
 unfold tabF
 induction l with
 | nil => cases hm
 | cons a t ih =>
  obtain ⟨h1, h2⟩ := List.pairwise_cons.1 h
  rw [List.find?_cons]
  by_cases e : a.mi = m.mi
  · rcases List.mem_cons.1 hm with rfl | hm
    · simp
    · exact absurd e (h1 m hm)
  · rcases List.mem_cons.1 hm with rfl | hm
    · exact absurd rfl e
    · have : (a.mi == m.mi) = false := by simpa using e
      rw [this]
      exact ih h2 hm
theorem tabF_del (l : List MarkM) (i : Int) : tabF (delT l i) = delF (tabF l) i := by
 funext y
 unfold delF tabF delT
 rw [List.find?_filter]
 by_cases e : y = i
 · subst e
   rw [if_pos rfl, List.find?_eq_none.2 fun x hx => by simp]
   rfl
 · rw [if_neg e]
   congr 2
   funext m
   by_cases h : m.mi = y
   · subst h
     simp [e]
   · have : (m.mi == y) = false := by simpa using h
     rw [this]
     simp
theorem tabF_put (l : List MarkM) (x : MarkM) : tabF (putT l x) = putF (tabF l) x.mi (mrkV x) := by
 funext y
 have hd := congrFun (tabF_del l x.mi) y
 unfold putF
 unfold tabF putT at *
 rw [List.find?_append]
 by_cases e : y = x.mi
 · subst e
   rw [if_pos rfl]
   unfold delF at hd
   rw [if_pos rfl, Option.map_eq_none_iff] at hd
   rw [hd]
   simp
 · rw [if_neg e]
   unfold delF at hd
   rw [if_neg e] at hd
   have : (x.mi == y) = false := by simpa using fun h => e h.symm
   rw [List.find?_cons, this, List.find?_nil, Option.or_none]
   exact hd
theorem del_len {l : List MarkM} (h : Apart l) (i : Int) : (delT l i).length = if (tabF l i).isSome = true then l.length - 1 else l.length := by
 rw [tabF_any]
 unfold delT
 induction l with
 | nil => rfl
 | cons a t ih =>
  obtain ⟨h1, h2⟩ := List.pairwise_cons.1 h
  have h3 := ih h2
  by_cases e : a.mi = i
  · subst e
    have h4 : (t.any fun m => m.mi == a.mi) = false := by
     rw [List.any_eq_false]
     intro m hm
     simpa using fun h => h1 m hm h.symm
    rw [h4] at h3
    rw [List.filter_cons, if_neg (by simp), h3]
    simp
  · have h4 : ((a :: t).any fun m => m.mi == i) = t.any fun m => m.mi == i := by
      rw [List.any_cons]
      have : (a.mi == i) = false := by simpa using e
      rw [this, Bool.false_or]
    rw [h4, List.filter_cons, if_pos (by simpa using e), List.length_cons, h3]
    split
    next hh =>
     have : 0 < t.length := by
      rcases t with _ | ⟨q, t⟩
      · cases hh
      · simp
     simp
     omega
    next => rfl
theorem del_apart {l : List MarkM} (h : Apart l) (i : Int) : Apart (delT l i) := List.Pairwise.filter _ h
theorem put_apart {l : List MarkM} (h : Apart l) (x : MarkM) : Apart (putT l x) := by
 unfold Apart putT
 rw [List.pairwise_append]
 refine ⟨del_apart h _, List.pairwise_singleton _ _, fun a ha b hb => ?_⟩
 have : b = x := by simpa using hb
 subst this
 simpa [delT] using (List.mem_filter.1 ha).2
theorem put_len {l : List MarkM} (h : Apart l) (x : MarkM) : (putT l x).length = if (tabF l x.mi).isSome = true then l.length else l.length + 1 := by
 unfold putT
 rw [List.length_append, del_len h, List.length_singleton]
 split
 next hh =>
  have : 0 < l.length := by
   rcases l with _ | ⟨q, t⟩
   · cases hh
   · simp
  omega
 next => rfl
theorem tabF_perm {l l' : List MarkM} (h : Apart l) (hp : l.Perm l') : tabF l = tabF l' := by
 funext y
 have h' : Apart l' := (hp.pairwise_iff (fun {_ _} hne => Ne.symm hne)).1 h
 by_cases e : ∃ m ∈ l, m.mi = y
 · obtain ⟨m, hm, rfl⟩ := e
   rw [tabF_at h hm, tabF_at h' (hp.mem_iff.1 hm)]
 · have h1 : ∀ L : List MarkM, (∀ m ∈ L, m.mi ≠ y) → tabF L y = none := fun L hL => by
     unfold tabF
     rw [List.find?_eq_none.2 fun x hx => by simpa using hL x hx]
     rfl
   rw [h1 l fun m hm h2 => e ⟨m, hm, h2⟩, h1 l' fun m hm h2 => e ⟨m, hp.mem_iff.2 hm, h2⟩]
theorem IMap.tight {P : Program} {k : TypeId} {w : World} {b n c : Nat} {f : Int → Option Value} (h : IMap P k w b n c f) : IMap P k w b c c f := by
 obtain ⟨D, ⟨es, clock, h1, F, hs, hD⟩, h2, h3, h4⟩ := h
 refine ⟨D, ⟨es, clock, h1, F, ?_, hD⟩, h2, h3, h4⟩
 subst hD
 rw [← h3]
 simp [Maps.size, length_sorted]
structure Tab (w : World) (b : Nat) (l : List MarkM) : Prop where
 map : IMap Tryz.prog 2 w b l.length l.length (tabF l)
 apart : Apart l
 fit : ∀ m ∈ l, w64 m.mi
theorem Tab.perm {w : World} {b : Nat} {l l' : List MarkM} (h : Tab w b l) (hp : l.Perm l') : Tab w b l' :=
 ⟨by rw [← hp.length_eq, ← tabF_perm h.apart hp]; exact h.map, (hp.pairwise_iff (fun {_ _} hne => Ne.symm hne)).1 h.apart, fun m hm => h.fit m (hp.mem_iff.2 hm)⟩
theorem Tab.lt {w : World} {b : Nat} {l : List MarkM} (h : Tab w b l) : b < w.heap.size := h.map.lt
theorem Tab.same {w w' : World} {b : Nat} {l : List MarkM} (h : Tab w b l) (hb : w'.heap[b]? = w.heap[b]?) : Tab w' b l := ⟨h.map.same hb, h.apart, h.fit⟩
theorem Tab.keep {B : Nat} {w w' : World} {b : Nat} {l : List MarkM} (h : Tab w b l) (hw : Below B w w') (hb : b < B) : Tab w' b l := ⟨h.map.keep hw hb, h.apart, h.fit⟩
theorem Tab.made (w : World) : Tab (w.alloc (.map #[] 0)) w.heap.size [] := ⟨IMap.made Tryz.prog 2 w, List.Pairwise.nil, fun m hm => by cases hm⟩
theorem Tab.grown {w w' : World} {b : Nat} {l : List MarkM} {row : Option Nat} (h : Tab w b l) (hg : w.grownBy w' row) (hr : some b ≠ row) : Tab w' b l := h.same (hg.block b h.lt hr)
theorem Tab.put_ {w w' : World} {b : Nat} {l : List MarkM} (h : Tab w b l) (x : MarkM) (hx : w64 x.mi) (h' : IMap Tryz.prog 2 w' b (l.length + 1) (if (tabF l x.mi).isSome = true then l.length else l.length + 1) (putF (tabF l) x.mi (mrkV x))) : Tab w' b (putT l x) :=
 ⟨by rw [put_len h.apart, tabF_put]; exact h'.tight, put_apart h.apart x, fun m hm => by
  rcases List.mem_append.1 hm with hm | hm
  · exact h.fit m (List.mem_filter.1 hm).1
  · have : m = x := by simpa using hm
    subst this
    exact hx⟩
theorem Tab.del_ {w w' : World} {b : Nat} {l : List MarkM} (h : Tab w b l) (i : Int) (h' : IMap Tryz.prog 2 w' b l.length (if (tabF l i).isSome = true then l.length - 1 else l.length) (delF (tabF l) i)) : Tab w' b (delT l i) :=
 ⟨by rw [del_len h.apart, tabF_del]; exact h'.tight, del_apart h.apart i, fun m hm => h.fit m (List.mem_filter.1 hm).1⟩
theorem wpList_put_tab {w : World} {b : Nat} {l : List MarkM} {ops : Array Oper} {rest : List Oper} {o : Oper} {a : Act} {Q : Exit → Act → World → Prop}
    (hg : o.guard = none) (m x v : Operand) (t e : TypeId) (hop : o.op = Op.mapUpdate t m x v) (ht : Tryz.prog.underlying t = some (.map 2 e)) (hm : a.eval m = .map (some b)) (h : Tab w b l) (hn : l.length < maxLen)
    (y : MarkM) (hx : a.eval x = .int .i64 y.mi) (hv : a.eval v = mrkV y) (hy : w64 y.mi)
    (hK : ∀ w', Tab w' b (putT l y) → w.grownBy w' (some b) → wpList Tryz.prog ops Q rest (a.put o.dst undef) w') :
    wpList Tryz.prog ops Q (o :: rest) a w :=
 wpList_putF hg m x v t hop Tryz.underlying2 ht hm h.map hn y.mi (mrkV y) hx hv hy fun w' h1 h2 => hK w' (h.put_ y hy h1) h2
theorem wpList_del_tab {w : World} {b : Nat} {l : List MarkM} {ops : Array Oper} {rest : List Oper} {o : Oper} {a : Act} {Q : Exit → Act → World → Prop}
    (hg : o.guard = none) (m x : Operand) (t e : TypeId) (hop : o.op = Op.call { callee := Callee.builtin Builtin.delete, args := #[m, x], argTypes := #[t, 2] }) (ht : Tryz.prog.underlying t = some (.map 2 e)) (hm : a.eval m = .map (some b)) (h : Tab w b l)
    (i : Int) (hx : a.eval x = .int .i64 i) (hi : w64 i)
    (hK : ∀ w', Tab w' b (delT l i) → w.grownBy w' (some b) → wpList Tryz.prog ops Q rest (a.put o.dst (.tuple #[])) w') :
    wpList Tryz.prog ops Q (o :: rest) a w :=
 wpList_delF hg m x t hop Tryz.underlying2 ht hm h.map i hx hi fun w' h1 h2 => hK w' (h.del_ i h1) h2
def TabR (w : World) (b r : Nat) (l rest : List MarkM) (cnt : Nat) : Prop :=
 ∃ (D : DataW Value) (left : Lit → Bool), w.ranges Tryz.prog 2 selfR b r l.length D left cnt ∧ (∀ x, w64 x → ∀ z, D.atKey (.int .i64 x) (.held z) = .held ((tabF l x).getD z)) ∧ (∀ x, w64 x → left (.int .i64 x) = rest.any fun m => m.mi == x) ∧
  (∀ m ∈ rest, m ∈ l) ∧ Apart rest ∧ Apart l ∧ ∀ m ∈ l, w64 m.mi
section
variable {w w' : World} {b r cnt : Nat} {l rest : List MarkM}
theorem TabR.left_eq (h : TabR w b r l rest cnt) : w.rangeLeft b r = cnt := by obtain ⟨_, _, h, _⟩ := h; exact h.left_eq
theorem TabR.lt (h : TabR w b r l rest cnt) : r < w.heap.size := by obtain ⟨_, _, h, _⟩ := h; exact h.lt
theorem TabR.walk (h : TabR w b r l rest cnt) : ∃ o : Obj, w.heap[r]? = some o ∧ o.isWalk = true := by obtain ⟨_, _, h, _⟩ := h; exact h.iter_walk
theorem TabR.walks (h : TabR w b r l rest cnt) (hk : KeepsWalks w w') : TabR w' b r l rest cnt := by obtain ⟨D, left, h, h2⟩ := h; exact ⟨D, left, h.of_walks hk, h2⟩
theorem TabR.grown {row : Option Nat} (h : TabR w b r l rest cnt) (hg : w.grownBy w' row) (hb : some b ≠ row) (hr : some r ≠ row) : TabR w' b r l rest cnt := by obtain ⟨D, left, h, h2⟩ := h; exact ⟨D, left, h.kept hg hb hr, h2⟩
theorem TabR.keep (h : TabR w b r l rest cnt) (hw : Below w.heap.size w w') : TabR w' b r l rest cnt := by
 obtain ⟨D, left, h, h2⟩ := h
 have h3 := h.owns.lt
 have h4 := h.lt
 obtain ⟨es, clock, since, seen, c0, hb, F, hs, hD, hr, q⟩ := h
 exact ⟨D, left, ⟨es, clock, since, seen, c0, (hw.block b h3).trans hb, F, hs, hD, (hw.block r h4).trans hr, q⟩, h2⟩
theorem TabR.alloc (h : TabR w b r l rest cnt) (o : Obj) : TabR (w.alloc o) b r l rest cnt := h.keep ((Below.refl _ _).alloc (Nat.le_refl _) _)
theorem Tab.range {t e : TypeId} (h : Tab w b l) (ht : Tryz.prog.underlying t = some (.map 2 e)) :
    ∃ w', (Instr.range t (.map (some b))).run Tryz.prog w = .ok (.pointer (some ⟨w.heap.size, 0, none⟩)) w' ∧ (∃ cnt, TabR w' b w.heap.size l l cnt) ∧ w.grownBy w' none ∧ w'.heap.size = w.heap.size + 1 := by
 obtain ⟨D, h1, h2, h3, h4⟩ := h.map
 obtain ⟨w', r1, r2, r3, r4⟩ := h1.range (Maps.int_keyed Tryz.underlying2) ht
 exact ⟨w', r1, ⟨_, D, _, r2, fun x hx => (h4 x hx).2, fun x hx => by rw [(h4 x hx).1, tabF_any], fun m hm => hm, h.apart, h.apart, h.fit⟩, r3, r4⟩
theorem TabR.next (h : TabR w b r l rest cnt) (ty : TypeId) :
    (rest = [] ∧ (Instr.next (.pointer (some ⟨r, 0, none⟩)) false ty).run Tryz.prog w = .ok (.tuple #[.bool false]) w) ∨
    ∃ m ∈ rest, ∃ w' cnt', (Instr.next (.pointer (some ⟨r, 0, none⟩)) false ty).run Tryz.prog w = .ok (.tuple #[.bool true, .int .i64 m.mi, mrkV m]) w' ∧ TabR w' b r l (delT rest m.mi) cnt' ∧ cnt' < cnt ∧ w.grownBy w' (some r) ∧ w'.heap.size = w.heap.size ∧
     (Instr.entry (.pointer (some ⟨r, 0, none⟩))).run Tryz.prog w' = .ok (.tuple #[.int .i64 m.mi, mrkV m]) w' := by
 obtain ⟨D, left, h1, h2, h3, h4, h5, h6, h7⟩ := h
 rcases h1.next (Maps.int_keyed Tryz.underlying2) ty with ⟨_, hl, hrun⟩ | ⟨key, v, kl, y, w', cnt', hkey, hlk, hv, hat, hrun, hrg, hlt, hgr, hsz, hen⟩
 · refine Or.inl ⟨?_, hrun⟩
   rcases rest with _ | ⟨m, t⟩
   · rfl
   · have := h3 m.mi (h7 m (h4 m (by simp)))
     rw [hl] at this
     simp at this
 · obtain ⟨x, rfl, rfl, hx⟩ := Maps.keyOf_int_inv Tryz.underlying2 hkey
   have h8 := h3 x hx
   rw [hlk] at h8
   obtain ⟨m, hm, he⟩ := List.any_eq_true.1 h8.symm
   have he : m.mi = x := by simpa using he
   subst he
   have hvy : y = (.held v, []) := by unfold selfR at hv; injection hv with hv; exact hv.symm
   subst hvy
   have hvm : v = mrkV m := by
    have := (hat (.held undef)).symm.trans (h2 m.mi hx undef)
    rw [tabF_at h6 (h4 m hm)] at this
    injection this
   subst hvm
   refine Or.inr ⟨m, hm, w', cnt', hrun, ⟨D, _, hrg, h2, fun z hz => ?_, fun q hq => h4 q (List.mem_filter.1 hq).1, del_apart h5 _, h6, h7⟩, hlt, hgr, hsz, hen⟩
   show (left (.int .i64 z) && !(Lit.int .i64 z).sameKey (.int .i64 m.mi)) = _
   rw [h3 z hz, Bool.eq_iff_iff]
   unfold delT
   simp only [Bool.and_eq_true, List.any_eq_true, List.mem_filter, Bool.not_eq_true', beq_iff_eq, decide_eq_true_eq]
   constructor
   · rintro ⟨⟨q, hq, rfl⟩, hs⟩
     refine ⟨q, ⟨hq, fun e => ?_⟩, rfl⟩
     rw [e, WideAt.sameKey_self (isKey64 m.mi Tryz.prog 2 (Maps.int_keyed Tryz.underlying2) Tryz.underlying2 hx)] at hs
     cases hs
   · rintro ⟨q, ⟨hq, hne⟩, rfl⟩
     refine ⟨⟨q, hq, rfl⟩, ?_⟩
     cases hs : (Lit.int .i64 q.mi).sameKey (.int .i64 m.mi)
     · rfl
     · exact absurd (by have := WideAt.sameKey_eq hs; injection this) hne
end
section
variable {w : World} {ops : Array Oper} {rest : List Oper} {o : Oper} {a : Act} {Q : Exit → Act → World → Prop}
theorem wpList_range_tab (hg : o.guard = none) (m : Operand) (t e : TypeId) (hop : o.op = Op.range t m) (ht : Tryz.prog.underlying t = some (.map 2 e)) {b : Nat} {l : List MarkM}
    (hm : a.eval m = .map (some b)) (h : Tab w b l)
    (hK : ∀ w' cnt, TabR w' b w.heap.size l l cnt → w.grownBy w' none → w'.heap.size = w.heap.size + 1 → wpList Tryz.prog ops Q rest (a.put o.dst (.pointer (some ⟨w.heap.size, 0, none⟩))) w') :
    wpList Tryz.prog ops Q (o :: rest) a w := by
 refine wpList_plain hg fun K' hK' => ?_
 obtain ⟨w', hrun, ⟨cnt, r1⟩, r2, r3⟩ := h.range ht
 unfold Oper.wp
 simp [execOp, hop, hm, hrun, Result.andThen]
 exact hK' _ _ (hK w' cnt r1 r2 r3)
theorem wpList_next_tab (hg : o.guard = none) (it : Operand) (hop : o.op = Op.next it false) {b r cnt : Nat} {l left : List MarkM}
    (hit : a.eval it = .pointer (some ⟨r, 0, none⟩)) (h : TabR w b r l left cnt)
    (hDone : left = [] → wpList Tryz.prog ops Q rest (a.put o.dst (.tuple #[.bool false])) w)
    (hMore : ∀ (m : MarkM) (w' : World) (cnt' : Nat), m ∈ left → TabR w' b r l (delT left m.mi) cnt' → cnt' < cnt → w.grownBy w' (some r) → w'.heap.size = w.heap.size →
     (Instr.entry (.pointer (some ⟨r, 0, none⟩))).run Tryz.prog w' = .ok (.tuple #[.int .i64 m.mi, mrkV m]) w' → wpList Tryz.prog ops Q rest (a.put o.dst (.tuple #[.bool true, .int .i64 m.mi, mrkV m])) w') :
    wpList Tryz.prog ops Q (o :: rest) a w := by
 refine wpList_plain hg fun K' hK' => ?_
 unfold Oper.wp
 rcases h.next o.type with ⟨h0, hrun⟩ | ⟨m, hm, w', cnt', hrun, r1, r2, r3, r4, r5⟩
 · simp [execOp, hop, hit, hrun, Result.andThen]
   exact hK' _ _ (hDone h0)
 · simp [execOp, hop, hit, hrun, Result.andThen]
   exact hK' _ _ (hMore m w' cnt' hm r1 r2 r3 r4 r5)
end
end Go.Proofs.YthjjdelpdiipdaaGreatDoor

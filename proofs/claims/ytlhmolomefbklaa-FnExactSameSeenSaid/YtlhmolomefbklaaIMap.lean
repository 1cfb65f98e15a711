/-
  Maps with numbers as keys and whatever values: a block's entries as a partial function, and what each operation does to it.
-/
import Derived.Test.YtlhmolomefbklaaIter
import Derived.Maps.OwnSet
import Derived.Maps.OwnIn
namespace Go.Proofs.Ytlhmolomefbklaa
set_option maxRecDepth 100000
open Go.RowKit

/-- A value reads as itself. -/
def selfR (v : Value) : Option (DataW Value × List MemPlace) := some (.held v, [])
def w64 (x : Int) : Prop := (Lit.int .i64 x).wf = true
/-- Block b is a map of c entries (n bounds them): the key x has the value f x, or none. -/
def IMap (P : Program) (k : TypeId) (w : World) (b n c : Nat) (f : Int → Option Value) : Prop :=
  ∃ D : DataW Value, w.ownsMap P k selfR b n D ∧ Maps.Tidy D ∧ Maps.size D = c ∧ ∀ x, w64 x → Maps.has D (.int .i64 x) = (f x).isSome ∧ ∀ z, D.atKey (.int .i64 x) (.held z) = .held ((f x).getD z)
def putF (f : Int → Option Value) (x : Int) (v : Value) : Int → Option Value := fun y => if y = x then some v else f y
def delF (f : Int → Option Value) (x : Int) : Int → Option Value := fun y => if y = x then none else f y
section
variable {P : Program} {k t e : TypeId} {w w' : World} {b n c : Nat} {f : Int → Option Value}

theorem IMap.made (P : Program) (k : TypeId) (w : World) : IMap P k (w.alloc (.map #[] 0)) w.heap.size 0 0 (fun _ => none) :=
  ⟨.map [], World.ownsMap_made w P k selfR, Maps.tidy_empty, rfl, fun _ _ => ⟨rfl, fun _ => rfl⟩⟩
theorem IMap.same (h : IMap P k w b n c f) (hb : w'.heap[b]? = w.heap[b]?) : IMap P k w' b n c f := by
  obtain ⟨D, ⟨es, clock, h1, h2⟩, h3⟩ := h
  exact ⟨D, ⟨es, clock, hb.trans h1, h2⟩, h3⟩
theorem IMap.lt (h : IMap P k w b n c f) : b < w.heap.size := by
  obtain ⟨D, ⟨es, clock, h1, _⟩, _⟩ := h
  exact (Array.getElem?_eq_some_iff.1 h1).1
theorem IMap.keep {B : Nat} (h : IMap P k w b n c f) (hw : Below B w w') (hb : b < B) : IMap P k w' b n c f := h.same (hw.block b hb)
theorem IMap.touch {S : List Nat} (h : IMap P k w b n c f) (t : Touch S w w') (hS : ∀ p ∈ S, p < w.heap.size → ∃ o : Obj, w.heap[p]? = some o ∧ o.isCells = true) : IMap P k w' b n c f := by
  obtain ⟨D, ⟨es, clock, h1, h2⟩, h3⟩ := h
  exact ⟨D, ⟨es, clock, (keeps_touch t hS).same b _ h1 rfl, h2⟩, h3⟩
theorem IMap.notCells (h : IMap P k w b n c f) : ∃ o : Obj, w.heap[b]? = some o ∧ o.isCells = false := by
  obtain ⟨D, ⟨es, clock, h1, _⟩, _⟩ := h
  exact ⟨_, h1, rfl⟩
theorem IMap.le (h : IMap P k w b n c f) : c ≤ n := by
  obtain ⟨D, h1, _, h3, _⟩ := h
  have := h1.size_le
  omega
/-- The pieces of own memory stand on where a map has been written. -/
theorem Sep.mapped {base : Nat} {is : List Item} (hS : Sep w base is) (h : IMap P k w b n c f) (hg : w.grownBy w' (some b)) : Sep w' base is := hS.turned hg fun r e => by cases e; exact h.notCells
theorem isKey64 (x : Int) (P : Program) (k : TypeId) (K : Maps.Keyed P k) (hk : P.underlying k = some (.int .i64)) (hx : w64 x) : WideAt.IsKeyLit (.int .i64 x) := K.key (Maps.keyOf_int_mk hk hx)
/-- 'm[x] = v'. -/
theorem IMap.put (h : IMap P k w b n c f) (hk : P.underlying k = some (.int .i64)) (ht : P.underlying t = some (.map k e)) (hn : n < maxLen) {x : Int} (hx : w64 x) (v : Value) :
    ∃ w', (Instr.mapUpdate t (.map (some b)) (.int .i64 x) v).run P w = .ok () w' ∧ IMap P k w' b (n + 1) (if (f x).isSome = true then c else c + 1) (putF f x v) ∧ w.grownBy w' (some b) := by
  obtain ⟨D, h1, h2, h3, h4⟩ := h
  have K := Maps.int_keyed hk
  have hl := isKey64 x P k K hk hx
  obtain ⟨w', r1, r2, r3⟩ := h1.update K ht hn (Maps.keyOf_int_mk hk hx) (show selfR v = some (.held v, []) from rfl)
  refine ⟨w', r1, ⟨_, r2, h2.put hl _, ?_, fun y hy => ?_⟩, r3⟩
  · rw [Maps.size_put h2, (h4 x hx).1, h3]
  · unfold putF
    by_cases e : y = x
    · subst e
      rw [if_pos rfl]
      exact ⟨Maps.has_put_same h2.isMap hl _, fun z => Maps.atKey_put_same h2.isMap hl _ _⟩
    · have hne : Lit.int .i64 y ≠ Lit.int .i64 x := fun h => e (by injection h)
      rw [if_neg e, Maps.has_put_other hne]
      exact ⟨(h4 y hy).1, fun z => by rw [Maps.atKey_put_other hne]; exact (h4 y hy).2 z⟩
/-- 'delete(m, x)'. -/
theorem IMap.del (h : IMap P k w b n c f) (hk : P.underlying k = some (.int .i64)) (ht : P.underlying t = some (.map k e)) {x : Int} (hx : w64 x) (ty : TypeId) :
    ∃ w', (Builtin.delete_ #[t, k] ty #[.map (some b), .int .i64 x]).run P w = .ok (.tuple #[]) w' ∧ IMap P k w' b n (if (f x).isSome = true then c - 1 else c) (delF f x) ∧ w.grownBy w' (some b) := by
  obtain ⟨D, h1, h2, h3, h4⟩ := h
  have K := Maps.int_keyed hk
  obtain ⟨w', r1, r2, r3⟩ := h1.drop K ht (Maps.keyOf_int_mk hk hx) ty
  refine ⟨w', r1, ⟨_, r2, h2.del _, ?_, fun y hy => ?_⟩, r3.grown⟩
  · have := Maps.size_del (k := Lit.int .i64 x) h2
    rw [(h4 x hx).1, h3] at this
    split at this <;> split <;> simp_all <;> omega
  · unfold delF
    by_cases e : y = x
    · subst e
      rw [if_pos rfl]
      exact ⟨Maps.has_del_same, fun z => Maps.atKey_del_same _⟩
    · have hne : Lit.int .i64 y ≠ Lit.int .i64 x := fun h => e (by injection h)
      rw [if_neg e, Maps.has_del_other hne]
      exact ⟨(h4 y hy).1, fun z => by rw [Maps.atKey_del_other hne]; exact (h4 y hy).2 z⟩
theorem selfR_inv {v u : Value} {ps : List MemPlace} (h : selfR v = some (.held u, ps)) : v = u := by
  unfold selfR at h
  injection h with h
  injection h with h _
  injection h
/-- 'm[x]'. -/
theorem IMap.look (h : IMap P k w b n c f) (hk : P.underlying k = some (.int .i64)) (ht : P.underlying t = some (.map k e)) {z : Value} (hz : (zeroValue e).run P w = .ok z w) {x : Int} (hx : w64 x) :
    (Instr.lookup t (.map (some b)) (.int .i64 x) false).run P w = .ok ((f x).getD z) w := by
  obtain ⟨D, h1, _, _, h4⟩ := h
  obtain ⟨v, ps, r1, r2⟩ := h1.lookup (Maps.int_keyed hk) ht hz (show selfR z = some (.held z, []) from rfl) (Maps.keyOf_int_mk hk hx)
  rw [(h4 x hx).2 z] at r2
  rw [r1, selfR_inv r2]
/-- 'v, ok := m[x]'. -/
theorem IMap.look_ok (h : IMap P k w b n c f) (hk : P.underlying k = some (.int .i64)) (ht : P.underlying t = some (.map k e)) {z : Value} (hz : (zeroValue e).run P w = .ok z w) {x : Int} (hx : w64 x) :
    (Instr.lookup t (.map (some b)) (.int .i64 x) true).run P w = .ok (.tuple #[(f x).getD z, .bool (f x).isSome]) w := by
  obtain ⟨D, h1, _, _, h4⟩ := h
  obtain ⟨v, ps, r1, r2⟩ := h1.look_ok (Maps.int_keyed hk) ht hz (show selfR z = some (.held z, []) from rfl) (Maps.keyOf_int_mk hk hx)
  rw [(h4 x hx).2 z] at r2
  rw [r1, selfR_inv r2, (h4 x hx).1]
/-- 'len(m)'. -/
theorem IMap.len (h : IMap P k w b n c f) (ht : P.underlying t = some (.map k e)) (ty : TypeId) : (Builtin.len_ #[t] ty #[.map (some b)]).run P w = .ok (.int .i64 (c : Int)) w := by
  obtain ⟨D, h1, _, h3, _⟩ := h
  have := h1.len ht ty
  rw [h3] at this
  exact this
end
/-- 'm[x] = v' at the operation, for the walk. -/
theorem wpList_putF {P : Program} {k e : TypeId} {w : World} {b n c : Nat} {f : Int → Option Value} {ops : Array Oper} {rest : List Oper} {o : Oper} {a : Act} {Q : Exit → Act → World → Prop}
    (hg : o.guard = none) (m x v : Operand) (t : TypeId) (hop : o.op = Op.mapUpdate t m x v) (hk : P.underlying k = some (.int .i64)) (ht : P.underlying t = some (.map k e)) (hm : a.eval m = .map (some b)) (h : IMap P k w b n c f) (hn : n < maxLen)
    (y : Int) (val : Value) (hx : a.eval x = .int .i64 y) (hv : a.eval v = val) (hy : w64 y)
    (hK : ∀ w', IMap P k w' b (n + 1) (if (f y).isSome = true then c else c + 1) (putF f y val) → w.grownBy w' (some b) → wpList P ops Q rest (a.put o.dst undef) w') :
    wpList P ops Q (o :: rest) a w := by
  refine wpList_plain hg fun K' hK' => ?_
  obtain ⟨w', hrun, r1, r2⟩ := h.put hk ht hn hy val
  unfold Oper.wp
  simp [execOp, hop, hm, hx, hv, hrun, Result.andThen]
  exact hK' _ _ (hK w' r1 r2)
/-- 'delete(m, x)' at the operation, for the walk. -/
theorem wpList_delF {P : Program} {k e : TypeId} {w : World} {b n c : Nat} {f : Int → Option Value} {ops : Array Oper} {rest : List Oper} {o : Oper} {a : Act} {Q : Exit → Act → World → Prop}
    (hg : o.guard = none) (m x : Operand) (t : TypeId) (hop : o.op = Op.call { callee := Callee.builtin Builtin.delete, args := #[m, x], argTypes := #[t, k] }) (hk : P.underlying k = some (.int .i64)) (ht : P.underlying t = some (.map k e)) (hm : a.eval m = .map (some b)) (h : IMap P k w b n c f)
    (y : Int) (hx : a.eval x = .int .i64 y) (hy : w64 y)
    (hK : ∀ w', IMap P k w' b n (if (f y).isSome = true then c - 1 else c) (delF f y) → w.grownBy w' (some b) → wpList P ops Q rest (a.put o.dst (.tuple #[])) w') :
    wpList P ops Q (o :: rest) a w := by
  refine wpList_plain hg fun K' hK' => ?_
  obtain ⟨w', hrun, r1, r2⟩ := h.del hk ht hy o.type
  unfold Oper.wp
  simp [execOp, hop, resolve, invoke, builtin, hm, hx, hrun, Result.andThen]
  exact hK' _ _ (hK w' r1 r2)

end Go.Proofs.Ytlhmolomefbklaa

/- Parts of my texts: RecN Iter IMap. -/
import Derived.Test.YtmjifhjhialcbaaU7
import Derived.Test.YtmjifhjhialcbaaU20
import Derived.Laws.AppendOwn
import Derived.Laws.Append
import Derived.RangeFuncNested
import Derived.RangeFuncBound
import Derived.RangeFuncCalls
import Derived.RangeFuncLeaves
import Derived.Shelf.Abstract
import Derived.Shelf.RegionOpen
import Derived.OwnWalkIn
import Derived.TacticsInMore
import Derived.LoopNIn
import Derived.LoopIn
import Derived.Maps.OwnSet
import Derived.Maps.OwnIn
namespace Go.Proofs.Ytmjifhjhialcbaa
set_option maxRecDepth 100000
set_option linter.unusedVariables false
open Go.RowKit
def nzM (r : List Int) (k : Nat) : Bool := decide ((markIn r k).ms ≠ 0 ∨ (markIn r k).mi ≠ 0)
theorem find_ofMarks (r : List Int) (k : Nat) : ∀ n, (ofMarks r n).find? (fun x => x.mc == 2 + (k : Int)) = if k < n ∧ nzM r k = true then some (markIn r k) else none
 | 0 => by rw [if_neg (by omega)]; rfl
 | n + 1 => by
  have ih := find_ofMarks r k n
  have hmc : (markIn r n).mc = 2 + (n : Int) := rfl
  by_cases hz : (markIn r n).ms ≠ 0 ∨ (markIn r n).mi ≠ 0
  · rw [ofMarks_yes hz, List.find?_append, ih]
    by_cases e : k = n
    · subst e
      have hnz : nzM r k = true := decide_eq_true hz
      rw [if_neg (by omega), if_pos ⟨by omega, hnz⟩, List.find?_cons, show ((markIn r k).mc == 2 + (k : Int)) = true by rw [hmc]; exact beq_self_eq_true _]
      rfl
    · have h1 : [markIn r n].find? (fun x => x.mc == 2 + (k : Int)) = none := by
        rw [List.find?_cons, show ((markIn r n).mc == 2 + (k : Int)) = false by rw [hmc]; exact beq_eq_false_iff_ne.2 (by omega)]
        rfl
      rw [h1, Option.or_none]
      by_cases h2 : k < n ∧ nzM r k = true
      · rw [if_pos h2, if_pos ⟨by omega, h2.2⟩]
      · rw [if_neg h2, if_neg (fun h3 => h2 ⟨by omega, h3.2⟩)]
  · have hz' : (markIn r n).ms = 0 ∧ (markIn r n).mi = 0 := by omega
    rw [ofMarks_no hz', ih]
    by_cases e : k = n
    · subst e
      have hnz : ¬ nzM r k = true := by unfold nzM; rw [decide_eq_true_eq]; exact hz
      rw [if_neg (by omega), if_neg (fun h3 => hnz h3.2)]
    · by_cases h2 : k < n ∧ nzM r k = true
      · rw [if_pos h2, if_pos ⟨by omega, h2.2⟩]
      · rw [if_neg h2, if_neg (fun h3 => h2 ⟨by omega, h3.2⟩)]
theorem findM_of (r : List Int) {k : Nat} (hk : k < 4) : (findM (ofMarks r 4) (2 + (k : Int))).ms = (markIn r k).ms ∧ (findM (ofMarks r 4) (2 + (k : Int))).mi = (markIn r k).mi := by
 unfold findM
 rw [find_ofMarks r k 4]
 by_cases h : nzM r k = true
 · rw [if_pos ⟨hk, h⟩]
   exact ⟨rfl, rfl⟩
 · rw [if_neg (fun h9 => h h9.2)]
   unfold nzM at h
   rw [decide_eq_true_eq] at h
   have hz : (markIn r k).ms = 0 ∧ (markIn r k).mi = 0 := by omega
   rw [hz.1, hz.2]
   exact ⟨rfl, rfl⟩
theorem rowHead_is {r : List Int} {h : HeadM} (hr : rowHeadM r = (h, true)) : r = headRowM h ∧ headOkB h = true := by
 unfold rowHeadM at hr
 split at hr
 next ht =>
  split at hr
  next ho =>
   obtain ⟨t1, t2, t3⟩ := (twice_iff _ _).1 ht
   have he : ofHead r = h := congrArg Prod.fst hr
   subst he
   refine ⟨?_, ho⟩
   have h5 : seenB (ofMarks r 4) = true := ((headOkB_iff _).1 ho).2.2.2.2.1
   have hf : ∀ k : Nat, k < 4 → (markOf (ofMarks r 4) (2 + (k : Int))).ms = (markIn r k).ms ∧ (markOf (ofMarks r 4) (2 + (k : Int))).mi = (markIn r k).mi := fun k hk => by
    rw [markOf_find h5]
    exact findM_of r hk
   rw [headRow_yes ho]
   obtain ⟨a, b⟩ := hf 0 (by decide)
   obtain ⟨a1, b1⟩ := hf 1 (by decide)
   obtain ⟨a2, b2⟩ := hf 2 (by decide)
   obtain ⟨a3, b3⟩ := hf 3 (by decide)
   have hm : markNs (ofMarks r 4) 4 = [(markIn r 0).ms, (markIn r 0).mi, (markIn r 1).ms, (markIn r 1).mi, (markIn r 2).ms, (markIn r 2).mi, (markIn r 3).ms, (markIn r 3).mi] := by
    rw [← a, ← b, ← a1, ← b1, ← a2, ← b2, ← a3, ← b3]
    rfl
   show r = ([r.getD 0 0, r.getD 1 0, r.getD 2 0] ++ markNs (ofMarks r 4) 4) ++ [r.getD 0 0, r.getD 0 0]
   rw [hm]
   match r, t1 with
   | [c0, c1, c2, c3, c4, c5, c6, c7, c8, c9, c10, c11, c12], _ =>
    have e1 : c11 = c0 := t2
    have e2 : c12 = c0 := t3
    subst e1 e2
    rfl
  next => cases congrArg Prod.snd hr
 next => cases congrArg Prod.snd hr
theorem rowHead_same {r : List Int} (hl : r.length = 13) : rowHeadM r = if headRowM (ofHead r) = r then (ofHead r, true) else (headZ, false) := by
 split
 next h =>
  have ho : headOkB (ofHead r) = true := by
   cases hb : headOkB (ofHead r)
   · unfold headRowM at h
     rw [hb] at h
     rw [← h] at hl
     cases hl
   · rfl
  have h1 := head_back ho
  rw [h] at h1
  exact h1
 next h =>
  cases hb : (rowHeadM r).2
  · unfold rowHeadM at hb ⊢
    split
    next ht =>
     rw [if_pos ht] at hb
     split
     next ho => rw [if_pos ho] at hb; cases hb
     next => rfl
    next => rfl
  · have h1 : rowHeadM r = ((rowHeadM r).1, true) := by rw [← hb]
    obtain ⟨h2, h3⟩ := rowHead_is h1
    have h4 : (rowHeadM r).1 = ofHead r := by
     unfold rowHeadM at hb ⊢
     split
     next ht =>
      rw [if_pos ht] at hb
      split
      next => rfl
      next ho => rw [if_neg ho] at hb; cases hb
     next ht => rw [if_neg ht] at hb; cases hb
    rw [h4] at h2
    exact absurd h2.symm h
theorem rowSlot_same {r : List Int} (hl : r.length = 11) : rowSlotM r = if (rowEntM (r.take 9)).2 = true ∧ slotRowM (rowEntM (r.take 9)).1 = r then ((rowEntM (r.take 9)).1, true) else (ent0, false) := by
 split
 next h =>
  obtain ⟨h1, h2⟩ := h
  have ho : entB (rowEntM (r.take 9)).1 = true := by
   cases hb : entB (rowEntM (r.take 9)).1
   · unfold slotRowM at h2
     rw [hb] at h2
     rw [← h2] at hl
     cases hl
   · rfl
  have h3 := slot_back ho
  rw [h2] at h3
  exact h3
 next h =>
  cases hb : (rowSlotM r).2
  · unfold rowSlotM at hb ⊢
    split
    next ht =>
     rw [if_pos ht] at hb
     unfold rowEntM at hb ⊢
     split
     next hq =>
      rw [if_pos hq] at hb
      split
      next ho => rw [if_pos ho] at hb; cases hb
      next => rfl
     next => rfl
    next => rfl
  · have h1 : rowSlotM r = ((rowSlotM r).1, true) := by rw [← hb]
    obtain ⟨h2, h3⟩ := rowSlot_is h1
    have h4 : rowSlotM r = rowEntM (r.take 9) := by
     unfold rowSlotM at hb ⊢
     split
     next => rfl
     next ht => rw [if_neg ht] at hb; cases hb
    rw [h4] at h2 hb
    exact absurd ⟨hb, h2.symm⟩ h
section
variable {w w' : World} {base : Nat} {is : List Item} {ds : List Dat} {vs : List Value} {fp : List Nat}
end
theorem keeps_touch {S : List Nat} {W W' : World} (t : Touch S W W') (hS : ∀ p ∈ S, p < W.heap.size → ∃ o : Obj, W.heap[p]? = some o ∧ o.isCells = true) : KeepsOthers W W' :=
 ⟨t.size, fun k o hk ho => by
  have hlt := (Array.getElem?_eq_some_iff.1 hk).1
  refine (t.block k hlt fun hm => ?_).trans hk
  obtain ⟨o', h1, h2⟩ := hS k hm hlt
  rw [hk] at h1
  injection h1 with h1
  rw [← h1, ho] at h2
  cases h2⟩
section
variable {α : Type} {f : α → List Dat} {e : TypeId} {k : Nat} {w : World} {l : List α} {fp : List Nat}
end
def selfR (v : Value) : Option (DataW Value × List MemPlace) := some (.held v, [])
def w64 (x : Int) : Prop := (Lit.int .i64 x).wf = true
def IMap (P : Program) (k : TypeId) (w : World) (b n c : Nat) (f : Int → Option Value) : Prop :=
 ∃ D : DataW Value, w.ownsMap P k selfR b n D ∧ Maps.Tidy D ∧ Maps.size D = c ∧ ∀ x, w64 x → Maps.has D (.int .i64 x) = (f x).isSome ∧ ∀ z, D.atKey (.int .i64 x) (.held z) = .held ((f x).getD z)
def putF (f : Int → Option Value) (x : Int) (v : Value) : Int → Option Value := fun y => if y = x then some v else f y
def delF (f : Int → Option Value) (x : Int) : Int → Option Value := fun y => if y = x then none else f y
section
variable {P : Program} {k t e : TypeId} {w w' : World} {b n c : Nat} {f : Int → Option Value}
theorem IMap.made (P : Program) (k : TypeId) (w : World) : IMap P k (w.alloc (.map #[] 0)) w.heap.size 0 0 (fun _ => none) :=
 ⟨.map [], World.ownsMap_made w P k selfR, Maps.tidy_empty, rfl, fun _ _ => ⟨rfl, fun _ => rfl⟩⟩
theorem IMap.same (h : IMap P k w b n c f) (hb : w'.heap[b]? = w.heap[b]?) : IMap P k w' b n c f := by
 obtain ⟨D, ⟨es, clock, h1, h2⟩, h3⟩ := h
 exact ⟨D, ⟨es, clock, hb.trans h1, h2⟩, h3⟩
theorem IMap.lt (h : IMap P k w b n c f) : b < w.heap.size := by
 obtain ⟨D, ⟨es, clock, h1, _⟩, _⟩ := h
 exact (Array.getElem?_eq_some_iff.1 h1).1
theorem IMap.keep {B : Nat} (h : IMap P k w b n c f) (hw : Below B w w') (hb : b < B) : IMap P k w' b n c f := h.same (hw.block b hb)
theorem IMap.touch {S : List Nat} (h : IMap P k w b n c f) (t : Touch S w w') (hS : ∀ p ∈ S, p < w.heap.size → ∃ o : Obj, w.heap[p]? = some o ∧ o.isCells = true) : IMap P k w' b n c f := by
 obtain ⟨D, ⟨es, clock, h1, h2⟩, h3⟩ := h
 exact ⟨D, ⟨es, clock, (keeps_touch t hS).same b _ h1 rfl, h2⟩, h3⟩
theorem isKey64 (x : Int) (P : Program) (k : TypeId) (K : Maps.Keyed P k) (hk : P.underlying k = some (.int .i64)) (hx : w64 x) : WideAt.IsKeyLit (.int .i64 x) := K.key (Maps.keyOf_int_mk hk hx)
theorem IMap.put (h : IMap P k w b n c f) (hk : P.underlying k = some (.int .i64)) (ht : P.underlying t = some (.map k e)) (hn : n < maxLen) {x : Int} (hx : w64 x) (v : Value) :
    ∃ w', (Instr.mapUpdate t (.map (some b)) (.int .i64 x) v).run P w = .ok () w' ∧ IMap P k w' b (n + 1) (if (f x).isSome = true then c else c + 1) (putF f x v) ∧ w.grownBy w' (some b) := by
 obtain ⟨D, h1, h2, h3, h4⟩ := h
 have K := Maps.int_keyed hk
 have hl := isKey64 x P k K hk hx
 obtain ⟨w', r1, r2, r3⟩ := h1.update K ht hn (Maps.keyOf_int_mk hk hx) (show selfR v = some (.held v, []) from rfl)
 refine ⟨w', r1, ⟨_, r2, h2.put hl _, ?_, fun y hy => ?_⟩, r3⟩
 · rw [Maps.size_put h2, (h4 x hx).1, h3]
 · unfold putF
   by_cases e : y = x
   · subst e
     rw [if_pos rfl]
     exact ⟨Maps.has_put_same h2.isMap hl _, fun z => Maps.atKey_put_same h2.isMap hl _ _⟩
   · have hne : Lit.int .i64 y ≠ Lit.int .i64 x := fun h => e (by injection h)
     rw [if_neg e, Maps.has_put_other hne]
     exact ⟨(h4 y hy).1, fun z => by rw [Maps.atKey_put_other hne]; exact (h4 y hy).2 z⟩
theorem IMap.len (h : IMap P k w b n c f) (ht : P.underlying t = some (.map k e)) (ty : TypeId) : (Builtin.len_ #[t] ty #[.map (some b)]).run P w = .ok (.int .i64 (c : Int)) w := by
 obtain ⟨D, h1, _, h3, _⟩ := h
 have := h1.len ht ty
 rw [h3] at this
 exact this
end
theorem wpList_putF {P : Program} {k e : TypeId} {w : World} {b n c : Nat} {f : Int → Option Value} {ops : Array Oper} {rest : List Oper} {o : Oper} {a : Act} {Q : Exit → Act → World → Prop}
    (hg : o.guard = none) (m x v : Operand) (t : TypeId) (hop : o.op = Op.mapUpdate t m x v) (hk : P.underlying k = some (.int .i64)) (ht : P.underlying t = some (.map k e)) (hm : a.eval m = .map (some b)) (h : IMap P k w b n c f) (hn : n < maxLen)
    (y : Int) (val : Value) (hx : a.eval x = .int .i64 y) (hv : a.eval v = val) (hy : w64 y)
    (hK : ∀ w', IMap P k w' b (n + 1) (if (f y).isSome = true then c else c + 1) (putF f y val) → w.grownBy w' (some b) → wpList P ops Q rest (a.put o.dst undef) w') :
    wpList P ops Q (o :: rest) a w := by
 refine wpList_plain hg fun K' hK' => ?_
 obtain ⟨w', hrun, r1, r2⟩ := h.put hk ht hn hy val
 unfold Oper.wp
 simp [execOp, hop, hm, hx, hv, hrun, Result.andThen]
 exact hK' _ _ (hK w' r1 r2)
end Go.Proofs.Ytmjifhjhialcbaa

/- Parts of my texts: Tab MarkI1. -/
import Derived.Test.YtmjifhjhialcbaaU24
import Derived.Maps.RangeWalk
import Derived.Sort.MapsRangeIn
namespace Go.Proofs.Ytmjifhjhialcbaa
set_option maxRecDepth 100000
set_option linter.unusedVariables false
open Go.RowKit
def mrkV (x : MarkM) : Value := .agg #[.int .i64 x.mc, .int .i64 x.ms, .int .i64 x.mi]
def tabF (l : List MarkM) (x : Int) : Option Value := (l.find? fun m => m.mi == x).map mrkV
def Apart (l : List MarkM) : Prop := l.Pairwise (fun a b => a.mi ≠ b.mi)
def delT (l : List MarkM) (i : Int) : List MarkM := l.filter fun m => decide (m.mi ≠ i)
def putT (l : List MarkM) (x : MarkM) : List MarkM := delT l x.mi ++ [x]
theorem tabF_any (l : List MarkM) (x : Int) : (tabF l x).isSome = l.any fun m => m.mi == x := by
 unfold tabF
 rw [Option.isSome_map, Bool.eq_iff_iff, List.find?_isSome, List.any_eq_true]
theorem tabF_at {l : List MarkM} (h : Apart l) {m : MarkM} (hm : m ∈ l) : tabF l m.mi = some (mrkV m) := by
 unfold tabF
 induction l with
 | nil => cases hm
 | cons a t ih =>
  obtain ⟨h1, h2⟩ := List.pairwise_cons.1 h
  rw [List.find?_cons]
  by_cases e : a.mi = m.mi
  · rcases List.mem_cons.1 hm with rfl | hm
    · simp
    · exact absurd e (h1 m hm)
  · rcases List.mem_cons.1 hm with rfl | hm
    · exact absurd rfl e
    · have : (a.mi == m.mi) = false := by simpa using e
      rw [this]
      exact ih h2 hm
theorem tabF_del (l : List MarkM) (i : Int) : tabF (delT l i) = delF (tabF l) i := by
 funext y
 unfold delF tabF delT
 rw [List.find?_filter]
 by_cases e : y = i
 · subst e
   rw [if_pos rfl, List.find?_eq_none.2 fun x hx => by simp]
   rfl
 · rw [if_neg e]
   congr 2
   funext m
   by_cases h : m.mi = y
   · subst h
     simp [e]
   · have : (m.mi == y) = false := by simpa using h
     rw [this]
     simp
theorem tabF_put (l : List MarkM) (x : MarkM) : tabF (putT l x) = putF (tabF l) x.mi (mrkV x) := by
 funext y
 have hd := congrFun (tabF_del l x.mi) y
 unfold putF
 unfold tabF putT at *
 rw [List.find?_append]
 by_cases e : y = x.mi
 · subst e
   rw [if_pos rfl]
   unfold delF at hd
   rw [if_pos rfl, Option.map_eq_none_iff] at hd
   rw [hd]
   simp
 · rw [if_neg e]
   unfold delF at hd
   rw [if_neg e] at hd
   have : (x.mi == y) = false := by simpa using fun h => e h.symm
   rw [List.find?_cons, this, List.find?_nil, Option.or_none]
   exact hd
theorem del_len {l : List MarkM} (h : Apart l) (i : Int) : (delT l i).length = if (tabF l i).isSome = true then l.length - 1 else l.length := by
 rw [tabF_any]
 unfold delT
 induction l with
 | nil => rfl
 | cons a t ih =>
  obtain ⟨h1, h2⟩ := List.pairwise_cons.1 h
  have h3 := ih h2
  by_cases e : a.mi = i
  · subst e
    have h4 : (t.any fun m => m.mi == a.mi) = false := by
     rw [List.any_eq_false]
     intro m hm
     simpa using fun h => h1 m hm h.symm
    rw [h4] at h3
    rw [List.filter_cons, if_neg (by simp), h3]
    simp
  · have h4 : ((a :: t).any fun m => m.mi == i) = t.any fun m => m.mi == i := by
      rw [List.any_cons]
      have : (a.mi == i) = false := by simpa using e
      rw [this, Bool.false_or]
    rw [h4, List.filter_cons, if_pos (by simpa using e), List.length_cons, h3]
    split
    next hh =>
     have : 0 < t.length := by
      rcases t with _ | ⟨q, t⟩
      · cases hh
      · simp
     simp
     omega
    next => rfl
theorem del_apart {l : List MarkM} (h : Apart l) (i : Int) : Apart (delT l i) := List.Pairwise.filter _ h
theorem put_apart {l : List MarkM} (h : Apart l) (x : MarkM) : Apart (putT l x) := by
 unfold Apart putT
 rw [List.pairwise_append]
 refine ⟨del_apart h _, List.pairwise_singleton _ _, fun a ha b hb => ?_⟩
 have : b = x := by simpa using hb
 subst this
 simpa [delT] using (List.mem_filter.1 ha).2
theorem put_len {l : List MarkM} (h : Apart l) (x : MarkM) : (putT l x).length = if (tabF l x.mi).isSome = true then l.length else l.length + 1 := by
 unfold putT
 rw [List.length_append, del_len h, List.length_singleton]
 split
 next hh =>
  have : 0 < l.length := by
   rcases l with _ | ⟨q, t⟩
   · cases hh
   · simp
  omega
 next => rfl
theorem IMap.tight {P : Program} {k : TypeId} {w : World} {b n c : Nat} {f : Int → Option Value} (h : IMap P k w b n c f) : IMap P k w b c c f := by
 obtain ⟨D, ⟨es, clock, h1, F, hs, hD⟩, h2, h3, h4⟩ := h
 refine ⟨D, ⟨es, clock, h1, F, ?_, hD⟩, h2, h3, h4⟩
 subst hD
 rw [← h3]
 simp [Maps.size, length_sorted]
structure Tab (w : World) (b : Nat) (l : List MarkM) : Prop where
 map : IMap Try.prog 2 w b l.length l.length (tabF l)
 apart : Apart l
 fit : ∀ m ∈ l, w64 m.mi
theorem Tab.lt {w : World} {b : Nat} {l : List MarkM} (h : Tab w b l) : b < w.heap.size := h.map.lt
theorem Tab.same {w w' : World} {b : Nat} {l : List MarkM} (h : Tab w b l) (hb : w'.heap[b]? = w.heap[b]?) : Tab w' b l := ⟨h.map.same hb, h.apart, h.fit⟩
theorem Tab.keep {B : Nat} {w w' : World} {b : Nat} {l : List MarkM} (h : Tab w b l) (hw : Below B w w') (hb : b < B) : Tab w' b l := ⟨h.map.keep hw hb, h.apart, h.fit⟩
theorem Tab.made (w : World) : Tab (w.alloc (.map #[] 0)) w.heap.size [] := ⟨IMap.made Try.prog 2 w, List.Pairwise.nil, fun m hm => by cases hm⟩
theorem Tab.grown {w w' : World} {b : Nat} {l : List MarkM} {row : Option Nat} (h : Tab w b l) (hg : w.grownBy w' row) (hr : some b ≠ row) : Tab w' b l := h.same (hg.block b h.lt hr)
theorem Tab.put_ {w w' : World} {b : Nat} {l : List MarkM} (h : Tab w b l) (x : MarkM) (hx : w64 x.mi) (h' : IMap Try.prog 2 w' b (l.length + 1) (if (tabF l x.mi).isSome = true then l.length else l.length + 1) (putF (tabF l) x.mi (mrkV x))) : Tab w' b (putT l x) :=
 ⟨by rw [put_len h.apart, tabF_put]; exact h'.tight, put_apart h.apart x, fun m hm => by
  rcases List.mem_append.1 hm with hm | hm
  · exact h.fit m (List.mem_filter.1 hm).1
  · have : m = x := by simpa using hm
    subst this
    exact hx⟩
theorem wpList_put_tab {w : World} {b : Nat} {l : List MarkM} {ops : Array Oper} {rest : List Oper} {o : Oper} {a : Act} {Q : Exit → Act → World → Prop}
    (hg : o.guard = none) (m x v : Operand) (t e : TypeId) (hop : o.op = Op.mapUpdate t m x v) (ht : Try.prog.underlying t = some (.map 2 e)) (hm : a.eval m = .map (some b)) (h : Tab w b l) (hn : l.length < maxLen)
    (y : MarkM) (hx : a.eval x = .int .i64 y.mi) (hv : a.eval v = mrkV y) (hy : w64 y.mi)
    (hK : ∀ w', Tab w' b (putT l y) → w.grownBy w' (some b) → wpList Try.prog ops Q rest (a.put o.dst undef) w') :
    wpList Try.prog ops Q (o :: rest) a w :=
 wpList_putF hg m x v t hop Try.underlying2 ht hm h.map hn y.mi (mrkV y) hx hv hy fun w' h1 h2 => hK w' (h.put_ y hy h1) h2
def TabR (w : World) (b r : Nat) (l rest : List MarkM) (cnt : Nat) : Prop :=
 ∃ (D : DataW Value) (left : Lit → Bool), w.ranges Try.prog 2 selfR b r l.length D left cnt ∧ (∀ x, w64 x → ∀ z, D.atKey (.int .i64 x) (.held z) = .held ((tabF l x).getD z)) ∧ (∀ x, w64 x → left (.int .i64 x) = rest.any fun m => m.mi == x) ∧
  (∀ m ∈ rest, m ∈ l) ∧ Apart rest ∧ Apart l ∧ ∀ m ∈ l, w64 m.mi
section
variable {w w' : World} {b r cnt : Nat} {l rest : List MarkM}
theorem TabR.left_eq (h : TabR w b r l rest cnt) : w.rangeLeft b r = cnt := by obtain ⟨_, _, h, _⟩ := h; exact h.left_eq
theorem TabR.lt (h : TabR w b r l rest cnt) : r < w.heap.size := by obtain ⟨_, _, h, _⟩ := h; exact h.lt
theorem TabR.grown {row : Option Nat} (h : TabR w b r l rest cnt) (hg : w.grownBy w' row) (hb : some b ≠ row) (hr : some r ≠ row) : TabR w' b r l rest cnt := by obtain ⟨D, left, h, h2⟩ := h; exact ⟨D, left, h.kept hg hb hr, h2⟩
theorem TabR.keep (h : TabR w b r l rest cnt) (hw : Below w.heap.size w w') : TabR w' b r l rest cnt := by
 obtain ⟨D, left, h, h2⟩ := h
 have h3 := h.owns.lt
 have h4 := h.lt
 obtain ⟨es, clock, since, seen, c0, hb, F, hs, hD, hr, q⟩ := h
 exact ⟨D, left, ⟨es, clock, since, seen, c0, (hw.block b h3).trans hb, F, hs, hD, (hw.block r h4).trans hr, q⟩, h2⟩
theorem TabR.alloc (h : TabR w b r l rest cnt) (o : Obj) : TabR (w.alloc o) b r l rest cnt := h.keep ((Below.refl _ _).alloc (Nat.le_refl _) _)
theorem Tab.range {t e : TypeId} (h : Tab w b l) (ht : Try.prog.underlying t = some (.map 2 e)) :
    ∃ w', (Instr.range t (.map (some b))).run Try.prog w = .ok (.pointer (some ⟨w.heap.size, 0, none⟩)) w' ∧ (∃ cnt, TabR w' b w.heap.size l l cnt) ∧ w.grownBy w' none ∧ w'.heap.size = w.heap.size + 1 := by
 obtain ⟨D, h1, h2, h3, h4⟩ := h.map
 obtain ⟨w', r1, r2, r3, r4⟩ := h1.range (Maps.int_keyed Try.underlying2) ht
 exact ⟨w', r1, ⟨_, D, _, r2, fun x hx => (h4 x hx).2, fun x hx => by rw [(h4 x hx).1, tabF_any], fun m hm => hm, h.apart, h.apart, h.fit⟩, r3, r4⟩
theorem TabR.next (h : TabR w b r l rest cnt) (ty : TypeId) :
    (rest = [] ∧ (Instr.next (.pointer (some ⟨r, 0, none⟩)) false ty).run Try.prog w = .ok (.tuple #[.bool false]) w) ∨
    ∃ m ∈ rest, ∃ w' cnt', (Instr.next (.pointer (some ⟨r, 0, none⟩)) false ty).run Try.prog w = .ok (.tuple #[.bool true, .int .i64 m.mi, mrkV m]) w' ∧ TabR w' b r l (delT rest m.mi) cnt' ∧ cnt' < cnt ∧ w.grownBy w' (some r) ∧ w'.heap.size = w.heap.size ∧
     (Instr.entry (.pointer (some ⟨r, 0, none⟩))).run Try.prog w' = .ok (.tuple #[.int .i64 m.mi, mrkV m]) w' := by
 obtain ⟨D, left, h1, h2, h3, h4, h5, h6, h7⟩ := h
 rcases h1.next (Maps.int_keyed Try.underlying2) ty with ⟨_, hl, hrun⟩ | ⟨key, v, kl, y, w', cnt', hkey, hlk, hv, hat, hrun, hrg, hlt, hgr, hsz, hen⟩
 · refine Or.inl ⟨?_, hrun⟩
   rcases rest with _ | ⟨m, t⟩
   · rfl
   · have := h3 m.mi (h7 m (h4 m (by simp)))
     rw [hl] at this
     simp at this
 · obtain ⟨x, rfl, rfl, hx⟩ := Maps.keyOf_int_inv Try.underlying2 hkey
   have h8 := h3 x hx
   rw [hlk] at h8
   obtain ⟨m, hm, he⟩ := List.any_eq_true.1 h8.symm
   have he : m.mi = x := by simpa using he
   subst he
   have hvy : y = (.held v, []) := by unfold selfR at hv; injection hv with hv; exact hv.symm
   subst hvy
   have hvm : v = mrkV m := by
    have := (hat (.held undef)).symm.trans (h2 m.mi hx undef)
    rw [tabF_at h6 (h4 m hm)] at this
    injection this
   subst hvm
   refine Or.inr ⟨m, hm, w', cnt', hrun, ⟨D, _, hrg, h2, fun z hz => ?_, fun q hq => h4 q (List.mem_filter.1 hq).1, del_apart h5 _, h6, h7⟩, hlt, hgr, hsz, hen⟩
   show (left (.int .i64 z) && !(Lit.int .i64 z).sameKey (.int .i64 m.mi)) = _
   rw [h3 z hz, Bool.eq_iff_iff]
   unfold delT
   simp only [Bool.and_eq_true, List.any_eq_true, List.mem_filter, Bool.not_eq_true', beq_iff_eq, decide_eq_true_eq]
   constructor
   · rintro ⟨⟨q, hq, rfl⟩, hs⟩
     refine ⟨q, ⟨hq, fun e => ?_⟩, rfl⟩
     rw [e, WideAt.sameKey_self (isKey64 m.mi Try.prog 2 (Maps.int_keyed Try.underlying2) Try.underlying2 hx)] at hs
     cases hs
   · rintro ⟨q, ⟨hq, hne⟩, rfl⟩
     refine ⟨⟨q, hq, rfl⟩, ?_⟩
     cases hs : (Lit.int .i64 q.mi).sameKey (.int .i64 m.mi)
     · rfl
     · exact absurd (by have := WideAt.sameKey_eq hs; injection this) hne
end
section
variable {w : World} {ops : Array Oper} {rest : List Oper} {o : Oper} {a : Act} {Q : Exit → Act → World → Prop}
theorem wpList_range_tab (hg : o.guard = none) (m : Operand) (t e : TypeId) (hop : o.op = Op.range t m) (ht : Try.prog.underlying t = some (.map 2 e)) {b : Nat} {l : List MarkM}
    (hm : a.eval m = .map (some b)) (h : Tab w b l)
    (hK : ∀ w' cnt, TabR w' b w.heap.size l l cnt → w.grownBy w' none → w'.heap.size = w.heap.size + 1 → wpList Try.prog ops Q rest (a.put o.dst (.pointer (some ⟨w.heap.size, 0, none⟩))) w') :
    wpList Try.prog ops Q (o :: rest) a w := by
 refine wpList_plain hg fun K' hK' => ?_
 obtain ⟨w', hrun, ⟨cnt, r1⟩, r2, r3⟩ := h.range ht
 unfold Oper.wp
 simp [execOp, hop, hm, hrun, Result.andThen]
 exact hK' _ _ (hK w' cnt r1 r2 r3)
theorem wpList_next_tab (hg : o.guard = none) (it : Operand) (hop : o.op = Op.next it false) {b r cnt : Nat} {l left : List MarkM}
    (hit : a.eval it = .pointer (some ⟨r, 0, none⟩)) (h : TabR w b r l left cnt)
    (hDone : left = [] → wpList Try.prog ops Q rest (a.put o.dst (.tuple #[.bool false])) w)
    (hMore : ∀ (m : MarkM) (w' : World) (cnt' : Nat), m ∈ left → TabR w' b r l (delT left m.mi) cnt' → cnt' < cnt → w.grownBy w' (some r) → w'.heap.size = w.heap.size →
     (Instr.entry (.pointer (some ⟨r, 0, none⟩))).run Try.prog w' = .ok (.tuple #[.int .i64 m.mi, mrkV m]) w' → wpList Try.prog ops Q rest (a.put o.dst (.tuple #[.bool true, .int .i64 m.mi, mrkV m])) w') :
    wpList Try.prog ops Q (o :: rest) a w := by
 refine wpList_plain hg fun K' hK' => ?_
 unfold Oper.wp
 rcases h.next o.type with ⟨h0, hrun⟩ | ⟨m, hm, w', cnt', hrun, r1, r2, r3, r4, r5⟩
 · simp [execOp, hop, hit, hrun, Result.andThen]
   exact hK' _ _ (hDone h0)
 · simp [execOp, hop, hit, hrun, Result.andThen]
   exact hK' _ _ (hMore m w' cnt' hm r1 r2 r3 r4 r5)
end
def tabOf (l : List MarkM) : List MarkM := l.foldl putT []
theorem tabOf_step {l : List MarkM} {j : Nat} (hj : j < l.length) : tabOf (l.take (j + 1)) = putT (tabOf (l.take j)) l[j] := by
 unfold tabOf
 rw [List.take_succ_eq_append_getElem hj, List.foldl_append]
 rfl
theorem fold_apart : ∀ (l a : List MarkM), Apart (a ++ l) → l.foldl putT a = a ++ l
 | [], a, _ => by simp
 | x :: t, a, h => by
  have h1 : putT a x = a ++ [x] := by
   unfold putT delT
   rw [List.filter_eq_self.2 fun m hm => ?_]
   unfold Apart at h
   rw [List.pairwise_append] at h
   simpa using h.2.2 m hm x (by simp)
  rw [List.foldl_cons, h1, fold_apart t (a ++ [x]) (by simpa using h)]
  simp
theorem tabOf_apart {l : List MarkM} (h : Apart l) : tabOf l = l := by
 unfold tabOf
 rw [fold_apart l [] (by simpa using h)]
 simp
theorem putT_len (l : List MarkM) (x : MarkM) : (putT l x).length ≤ l.length + 1 := by
 unfold putT delT
 rw [List.length_append, List.length_singleton]
 have := List.length_filter_le (fun m : MarkM => decide (m.mi ≠ x.mi)) l
 omega
theorem fold_len : ∀ (l a : List MarkM), (l.foldl putT a).length ≤ a.length + l.length
 | [], a => by simp
 | x :: t, a => by
  have := fold_len t (putT a x)
  have := putT_len a x
  rw [List.foldl_cons, List.length_cons]
  omega
theorem tabOf_len (l : List MarkM) : (tabOf l).length ≤ l.length := by
 have := fold_len l []
 simpa [tabOf] using this
theorem fold_less : ∀ (l a : List MarkM), Apart a → (l.foldl putT a).length = a.length + l.length → Apart (a ++ l)
 | [], a, ha, _ => by simpa using ha
 | x :: t, a, ha, h => by
  rw [List.foldl_cons] at h
  have h1 := fold_len t (putT a x)
  have h2 := putT_len a x
  rw [List.length_cons] at h
  have h3 : (putT a x).length = a.length + 1 := by omega
  have h4 := fold_less t (putT a x) (put_apart ha x) (by omega)
  have h5 : putT a x = a ++ [x] := by
   unfold putT delT at h3 ⊢
   rw [List.length_append, List.length_singleton] at h3
   rw [List.filter_eq_self.2]
   have h6 : ((a.filter fun m => decide (m.mi ≠ x.mi)).length) = a.length := by omega
   exact List.length_filter_eq_length_iff.1 h6
  rw [h5] at h4
  simpa using h4
theorem tabOf_all {l : List MarkM} : (tabOf l).length = l.length ↔ Apart l := by
 constructor
 · intro h
   have := fold_less l [] List.Pairwise.nil (by simpa [tabOf] using h)
   simpa using this
 · intro h
   rw [tabOf_apart h]
set_option maxHeartbeats 3200000 in
theorem iTable_any (A : Option Addr) (n cc B : Nat) (l : List MarkM) (w : World) (h : Rd w B [mrkD l] [.slice A n cc]) (hB : B ≤ w.heap.size) (hs : mrkSz l ≤ 1048577) (hf : ∀ m ∈ l, w64 m.mi) :
    Calls Try.prog 68 #[.slice A n cc] w fun e w' => e = .returned (.map (some w.heap.size)) ∧ Tab w' w.heap.size (tabOf l) ∧ Below w.heap.size w w' := by
 obtain ⟨_, _, _, e, hl, _, _, hel⟩ := h.mrks
 injection e with e1 e2 e3
 subst e1 e2 e3
 have hn : n ≤ 1048577 := by unfold mrkSz at hs; omega
 have HL := jd hl
 have HF := jd hf
 have T0 := jd (Tab.made w)
 have C0 := jd ((Below.refl w.heap.size w).alloc (Nat.le_refl _) (.map #[] 0))
 clear h hl hf hs
 have hmm := @run_makeMap Try.prog
 go_enter Try.func68, Try.ntmps68
 go_wp2
 go_loopw [9] (fun i wr => ∃ j : Nat, j ≤ n ∧ i = .int .i64 (j : Int) ∧ Tab wr w.heap.size (tabOf (l.take j)) ∧ Below w.heap.size w wr) (fun i _ => n - (intOf i).toNat)
 case atStart => exact ⟨0, Nat.zero_le _, rfl, T0.out, C0.out⟩
 case round =>
  obtain ⟨j, hj, rfl, T, c⟩ := hrel
  clear T0 C0
  by_cases hlt : j < n
  case neg =>
   obtain rfl : j = n := by omega
   have HT := jd (show Tab wr w.heap.size (tabOf l) by have := T; rwa [show l.take j = l from by rw [← HL.out, List.take_length]] at this)
   have CC := jd c
   clear hel T c
   go_wp2
   go_ret
   exact ⟨rfl, HT.out, CC.out⟩
  case pos =>
   have hjl : j < l.length := by have := HL.out; omega
   obtain ⟨b, off, rfl, hb, hc⟩ := hel (by omega)
   obtain ⟨hc0, hc1, hc2⟩ := hc j hjl
   have cs0 := cu0z c hc0 (show b < _ by omega)
   obtain ⟨x0, hx0⟩ : ∃ p, p = l[j].mc := ⟨_, rfl⟩
   rw [← hx0] at cs0
   have cs1 := cu0z c hc1 (show b < _ by omega)
   obtain ⟨x1, hx1⟩ : ∃ p, p = l[j].ms := ⟨_, rfl⟩
   rw [← hx1] at cs1
   have cs2 := cu0z c hc2 (show b < _ by omega)
   obtain ⟨x2, hx2⟩ : ∃ p, p = l[j].mi := ⟨_, rfl⟩
   rw [← hx2] at cs2
   have HW := jd (show w64 x2 by rw [hx2]; exact HF.out _ (List.getElem_mem hjl))
   have HS := jd (show tabOf (l.take (j + 1)) = putT (tabOf (l.take j)) ⟨x0, x1, x2⟩ by rw [tabOf_step hjl, hx0, hx1, hx2])
   have HN := jd (show (tabOf (l.take j)).length < maxLen by
    have h1 := tabOf_len (l.take j)
    rw [List.length_take] at h1
    have : (1048577 : Nat) < maxLen := by decide
    omega)
   have TT := jd (T.keep ((Below.refl wr.heap.size wr).alloc (Nat.le_refl _) (.cells #[.int .i64 x0, .int .i64 x1, .int .i64 x2] 76)) T.lt)
   have CC := jd (c.alloc c.size (.cells #[.int .i64 x0, .int .i64 x1, .int .i64 x2] 76))
   clear hc hc0 hc1 hc2 hel hx0 hx1 hx2 T c
   go_wp2_with (first
    | (at_mapUpdate
       refine wpList_put_tab rfl (.tmp 13) (.tmp 15) (.tmp 16) 111 76 (by rfl) Try.underlying111 (by rfl) TT.out HN.out ⟨x0, x1, x2⟩ (by rfl) (by rfl) HW.out ?_
       intro w3 t3 g3))
   have C3 := jd (CC.out.grown g3 CC.out.size (fun k e => by cases e; exact Nat.le_refl _))
   have T3 := jd t3
   clear TT CC t3 g3
   go_wp2
   go_roundw
   case rel => exact ⟨j + 1, by omega, by go_num, by rw [HS.out]; exact T3.out, C3.out⟩
   case measure => simp [intOf]; omega
end Go.Proofs.Ytmjifhjhialcbaa

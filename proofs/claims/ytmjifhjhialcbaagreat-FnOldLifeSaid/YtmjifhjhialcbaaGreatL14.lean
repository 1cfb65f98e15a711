/- Parts of my texts: RecN Iter IMap Tab. -/
import Derived.Test.YtmjifhjhialcbaaGreatL13
import Derived.RangeFuncNested
import Derived.RangeFuncBound
import Derived.RangeFuncCalls
import Derived.RangeFuncLeaves
import Derived.Shelf.Abstract
import Derived.Shelf.RegionOpen
import Derived.OwnWalkIn
import Derived.TacticsInMore
import Derived.LoopNIn
import Derived.LoopIn
import Derived.Maps.OwnSet
import Derived.Maps.OwnIn
import Derived.Maps.RangeWalk
import Derived.Sort.MapsRangeIn
namespace Go.Proofs.YtmjifhjhialcbaaGreat
set_option maxRecDepth 100000
set_option linter.unusedVariables false
open Go.RowKit
def nzM (r : List Int) (k : Nat) : Bool := decide ((markIn r k).ms ≠ 0 ∨ (markIn r k).mi ≠ 0)
theorem find_ofMarks (r : List Int) (k : Nat) : ∀ n, (ofMarks r n).find? (fun x => x.mc == 2 + (k : Int)) = if k < n ∧ nzM r k = true then some (markIn r k) else none
 | 0 => by rw [if_neg (by omega)]; rfl
 | n + 1 => by
  have ih := find_ofMarks r k n
  have hmc : (markIn r n).mc = 2 + (n : Int) := rfl
  by_cases hz : (markIn r n).ms ≠ 0 ∨ (markIn r n).mi ≠ 0
  · rw [ofMarks_yes hz, List.find?_append, ih]
    by_cases e : k = n
    · subst e
      have hnz : nzM r k = true := decide_eq_true hz
      rw [if_neg (by omega), if_pos ⟨by omega, hnz⟩, List.find?_cons, show ((markIn r k).mc == 2 + (k : Int)) = true by rw [hmc]; exact beq_self_eq_true _]
      rfl
    · have h1 : [markIn r n].find? (fun x => x.mc == 2 + (k : Int)) = none := by
        rw [List.find?_cons, show ((markIn r n).mc == 2 + (k : Int)) = false by rw [hmc]; exact beq_eq_false_iff_ne.2 (by omega)]
        rfl
      rw [h1, Option.or_none]
      by_cases h2 : k < n ∧ nzM r k = true
      · rw [if_pos h2, if_pos ⟨by omega, h2.2⟩]
      · rw [if_neg h2, if_neg (fun h3 => h2 ⟨by omega, h3.2⟩)]
  · have hz' : (markIn r n).ms = 0 ∧ (markIn r n).mi = 0 := by omega
    rw [ofMarks_no hz', ih]
    by_cases e : k = n
    · subst e
      have hnz : ¬ nzM r k = true := by unfold nzM; rw [decide_eq_true_eq]; exact hz
      rw [if_neg (by omega), if_neg (fun h3 => hnz h3.2)]
    · by_cases h2 : k < n ∧ nzM r k = true
      · rw [if_pos h2, if_pos ⟨by omega, h2.2⟩]
      · rw [if_neg h2, if_neg (fun h3 => h2 ⟨by omega, h3.2⟩)]
theorem findM_of (r : List Int) {k : Nat} (hk : k < 4) : (findM (ofMarks r 4) (2 + (k : Int))).ms = (markIn r k).ms ∧ (findM (ofMarks r 4) (2 + (k : Int))).mi = (markIn r k).mi := by
 unfold findM
 rw [find_ofMarks r k 4]
 by_cases h : nzM r k = true
 · rw [if_pos ⟨hk, h⟩]
   exact ⟨rfl, rfl⟩
 · rw [if_neg (fun h9 => h h9.2)]
   unfold nzM at h
   rw [decide_eq_true_eq] at h
   have hz : (markIn r k).ms = 0 ∧ (markIn r k).mi = 0 := by omega
   rw [hz.1, hz.2]
   exact ⟨rfl, rfl⟩
theorem rowHead_is {r : List Int} {h : HeadM} (hr : rowHeadM r = (h, true)) : r = headRowM h ∧ headOkB h = true := by
 unfold rowHeadM at hr
 split at hr
 next ht =>
  split at hr
  next ho =>
   obtain ⟨t1, t2, t3⟩ := (twice_iff _ _).1 ht
   have he : ofHead r = h := congrArg Prod.fst hr
   subst he
   refine ⟨?_, ho⟩
   have h5 : seenB (ofMarks r 4) = true := ((headOkB_iff _).1 ho).2.2.2.2.1
   have hf : ∀ k : Nat, k < 4 → (markOf (ofMarks r 4) (2 + (k : Int))).ms = (markIn r k).ms ∧ (markOf (ofMarks r 4) (2 + (k : Int))).mi = (markIn r k).mi := fun k hk => by
    rw [markOf_find h5]
    exact findM_of r hk
   rw [headRow_yes ho]
   obtain ⟨a, b⟩ := hf 0 (by decide)
   obtain ⟨a1, b1⟩ := hf 1 (by decide)
   obtain ⟨a2, b2⟩ := hf 2 (by decide)
   obtain ⟨a3, b3⟩ := hf 3 (by decide)
   have hm : markNs (ofMarks r 4) 4 = [(markIn r 0).ms, (markIn r 0).mi, (markIn r 1).ms, (markIn r 1).mi, (markIn r 2).ms, (markIn r 2).mi, (markIn r 3).ms, (markIn r 3).mi] := by
    rw [← a, ← b, ← a1, ← b1, ← a2, ← b2, ← a3, ← b3]
    rfl
   show r = ([r.getD 0 0, r.getD 1 0, r.getD 2 0] ++ markNs (ofMarks r 4) 4) ++ [r.getD 0 0, r.getD 0 0]
   rw [hm]
   match r, t1 with
   | [c0, c1, c2, c3, c4, c5, c6, c7, c8, c9, c10, c11, c12], _ =>
    have e1 : c11 = c0 := t2
    have e2 : c12 = c0 := t3
    subst e1 e2
    rfl
  next => cases congrArg Prod.snd hr
 next => cases congrArg Prod.snd hr
theorem rowHead_same {r : List Int} (hl : r.length = 13) : rowHeadM r = if headRowM (ofHead r) = r then (ofHead r, true) else (headZ, false) := by
 split
 next h =>
  have ho : headOkB (ofHead r) = true := by
   cases hb : headOkB (ofHead r)
   · unfold headRowM at h
     rw [hb] at h
     rw [← h] at hl
     cases hl
   · rfl
  have h1 := head_back ho
  rw [h] at h1
  exact h1
 next h =>
  cases hb : (rowHeadM r).2
  · unfold rowHeadM at hb ⊢
    split
    next ht =>
     rw [if_pos ht] at hb
     split
     next ho => rw [if_pos ho] at hb; cases hb
     next => rfl
    next => rfl
  · have h1 : rowHeadM r = ((rowHeadM r).1, true) := by rw [← hb]
    obtain ⟨h2, h3⟩ := rowHead_is h1
    have h4 : (rowHeadM r).1 = ofHead r := by
     unfold rowHeadM at hb ⊢
     split
     next ht =>
      rw [if_pos ht] at hb
      split
      next => rfl
      next ho => rw [if_neg ho] at hb; cases hb
     next ht => rw [if_neg ht] at hb; cases hb
    rw [h4] at h2
    exact absurd h2.symm h
theorem rowSlot_same {r : List Int} (hl : r.length = 11) : rowSlotM r = if (rowEntM (r.take 9)).2 = true ∧ slotRowM (rowEntM (r.take 9)).1 = r then ((rowEntM (r.take 9)).1, true) else (ent0, false) := by
 split
 next h =>
  obtain ⟨h1, h2⟩ := h
  have ho : entB (rowEntM (r.take 9)).1 = true := by
   cases hb : entB (rowEntM (r.take 9)).1
   · unfold slotRowM at h2
     rw [hb] at h2
     rw [← h2] at hl
     cases hl
   · rfl
  have h3 := slot_back ho
  rw [h2] at h3
  exact h3
 next h =>
  cases hb : (rowSlotM r).2
  · unfold rowSlotM at hb ⊢
    split
    next ht =>
     rw [if_pos ht] at hb
     unfold rowEntM at hb ⊢
     split
     next hq =>
      rw [if_pos hq] at hb
      split
      next ho => rw [if_pos ho] at hb; cases hb
      next => rfl
     next => rfl
    next => rfl
  · have h1 : rowSlotM r = ((rowSlotM r).1, true) := by rw [← hb]
    obtain ⟨h2, h3⟩ := rowSlot_is h1
    have h4 : rowSlotM r = rowEntM (r.take 9) := by
     unfold rowSlotM at hb ⊢
     split
     next => rfl
     next ht => rw [if_neg ht] at hb; cases hb
    rw [h4] at h2 hb
    exact absurd ⟨hb, h2.symm⟩ h
theorem fits_two (b : BookM) (s : List MarkM) (r : List Int) : fitsM b s r = ((rowSlotM r).2 && ((appM b (rowSlotM r).1).2 && (markedM s (rowSlotM r).1).2)) := by
 rw [Bool.eq_iff_iff, fits_iff]
 simp only [Bool.and_eq_true]
 constructor
 · rintro ⟨h1, _, h3, h4⟩; exact ⟨h1, h3, h4⟩
 · rintro ⟨h1, h3, h4⟩
   exact ⟨h1, ((nextB_iff _ _).1 (app_yes h3).2.1).2.1, h3, h4⟩
theorem readAt_synced {d : DiskM} (h : diskOk d = true) {I : Nat} (hI : I < d.kept.length) : readAt (synced d) (I : Int) = readAt d (I : Int) := by
 have hl : (synced d).kept.length = d.kept.length := synced_lenT h
 have hs : synced d = ⟨fellTo true [] d.kept d.wait d.wait.length, []⟩ := by unfold synced; rw [if_pos h]; rfl
 unfold readAt
 rw [if_pos ⟨synced_ok h, has_at (by omega)⟩, if_pos ⟨h, has_at hI⟩, hs]
 show ((none : Option (List Int)).getD ((fellTo true [] d.kept d.wait d.wait.length).getD ((I : Int)).toNat []), true) = _
 have hw : ∀ p ∈ d.wait, 0 ≤ p.1 := fun p hp => by
  have h1 := List.all_eq_true.1 (diskOk_iff.1 h).2.2.2 p hp
  unfold wrOk at h1
  rw [Bool.and_eq_true] at h1
  have h2 := h1.1
  unfold hasS at h2
  rw [Bool.and_eq_true, decide_eq_true_eq] at h2
  exact h2.1
 have h3 := fellTo_all (fs := []) hI hw d.wait.length (Nat.le_refl _)
 have h4 : ((I : Int)).toNat = I := by omega
 rw [h4, h3]
 rfl
theorem rightAt_synced {t : TwoM} (h : twoOk t = true) (i : Int) : rightAt (bothSynced t) i = rightAt t i := by
 obtain ⟨h1, h2, h3⟩ := twoOk_iff.1 h
 have hb : bothSynced t = ⟨synced t.a, synced t.b⟩ := by unfold bothSynced; rw [if_pos h]
 have hl : (synced t.a).kept.length = t.a.kept.length := synced_lenT h1
 have hok : twoOk (bothSynced t) = true := bothSynced_ok h
 have hh : hasS (bothSynced t).a i = hasS t.a i := by
  rw [hb]
  unfold hasS
  show (decide (0 ≤ i) && decide (i ≤ ((synced t.a).kept.length : Int) - 1)) = _
  rw [hl]
 by_cases hi : hasS t.a i = true
 · obtain ⟨I, rfl, hI⟩ : ∃ I : Nat, i = (I : Int) ∧ I < t.a.kept.length := by
     unfold hasS at hi
     rw [Bool.and_eq_true, decide_eq_true_eq, decide_eq_true_eq] at hi
     exact ⟨i.toNat, by omega, by omega⟩
   have ra : rightOf (bothSynced t).a (I : Int) = rightOf t.a (I : Int) := by
    rw [hb]
    unfold rightOf
    show unsummed (readAt (synced t.a) (I : Int)).1 = _
    rw [readAt_synced h1 hI]
   have rb : rightOf (bothSynced t).b (I : Int) = rightOf t.b (I : Int) := by
    rw [hb]
    unfold rightOf
    show unsummed (readAt (synced t.b) (I : Int)).1 = _
    rw [readAt_synced h2 (by omega)]
   unfold rightAt
   rw [if_pos (show twoOk (bothSynced t) = true ∧ hasS (bothSynced t).a (I : Int) = true from ⟨hok, by rw [hh]; exact hi⟩), if_pos (show twoOk t = true ∧ hasS t.a (I : Int) = true from ⟨h, hi⟩), ra, rb]
 · unfold rightAt
   rw [if_neg (show ¬ (twoOk (bothSynced t) = true ∧ hasS (bothSynced t).a i = true) from fun h9 => hi (by rw [← hh]; exact h9.2)), if_neg (show ¬ (twoOk t = true ∧ hasS t.a i = true) from fun h9 => hi h9.2)]
theorem kept_synced (t : TwoM) : keptB (bothSynced t) = keptB t := by
 cases hk : keptB t
 · cases h : keptB (bothSynced t)
   · rfl
   · exfalso
     by_cases ht : twoOk t = true
     · have h1 := ((keptB_iff _).1 h).2
       unfold bothSynced at h1
       rw [if_pos ht] at h1
       have h2 : (synced t.a).kept.length = 22 := h1
       rw [synced_lenT (twoOk_iff.1 ht).1] at h2
       rw [(keptB_iff t).2 ⟨ht, h2⟩] at hk
       cases hk
     · have h1 := ((keptB_iff _).1 h).1
       unfold bothSynced at h1
       rw [if_neg ht] at h1
       revert h1
       decide
 · exact keptB_sync2 hk
theorem headTo_synced {t : TwoM} (h : twoOk t = true) : ∀ k, headTo (bothSynced t) k = headTo t k
 | 0 => rfl
 | k + 1 => by
  show bestTo (k : Int) (headTo (bothSynced t) k) (rightAt (bothSynced t) (k : Int)) _ = bestTo (k : Int) (headTo t k) (rightAt t (k : Int)) _
  rw [headTo_synced h k, rightAt_synced h]
theorem headIn_synced (t : TwoM) : headInM (bothSynced t) = headInM t := by
 unfold headInM
 rw [kept_synced]
 split
 next hk => exact headTo_synced ((keptB_iff _).1 hk).1 2
 next => rfl
theorem bookAt_synced {t : TwoM} (h : twoOk t = true) (x : HeadM) : ∀ j, bookAt (bothSynced t) x j = bookAt t x j
 | 0 => rfl
 | j + 1 => by
  show stepM (bothSynced t) (bookAt (bothSynced t) x j) = stepM t (bookAt t x j)
  rw [bookAt_synced h x j]
  unfold stepM nextM
  rw [rightAt_synced h]
theorem bookIn_synced (t : TwoM) (x : HeadM) : bookInM (bothSynced t) x = bookInM t x := by
 unfold bookInM
 rw [kept_synced]
 split
 next hk => rw [bookAt_synced ((keptB_iff _).1 hk.1).1]
 next => rfl
section
variable {w w' : World} {base : Nat} {is : List Item} {ds : List Dat} {vs : List Value} {fp : List Nat}
theorem Ow.cellsAt (h : Ow w ds vs fp) : ∀ p ∈ fp, ∃ o : Obj, w.heap[p]? = some o ∧ o.isCells = true := by
 induction h with
 | nil => intro p hp; cases hp
 | int _ ih => exact ih
 | bool _ ih => exact ih
 | row h1 _ _ ih1 ih2 =>
  intro p hp
  rcases List.mem_append.1 hp with hp | hp
  · rcases h1.2 with ⟨hv, _⟩ | ⟨g, cap, cur, hv, _, hg, _⟩
    · rw [hv] at hp; simp [Value.ownBlock] at hp
    · rw [hv] at hp
      have : p = g := by simpa [Value.ownBlock] using hp
      subst this
      exact ⟨_, hg, rfl⟩
  · rcases List.mem_append.1 hp with hp | hp
    · exact ih1 p hp
    · exact ih2 p hp
theorem Item.cellsAt {i : Item} (h : i.holds w) : ∀ p ∈ i.foot, ∃ o : Obj, w.heap[p]? = some o ∧ o.isCells = true := by
 cases i with
 | blk p cs t =>
  intro q hq
  have : q = p := by simpa [Item.foot] using hq
  subst this
  exact ⟨_, h, rfl⟩
 | own ds vs fp => exact Ow.cellsAt h
theorem Sep.cellsAt (h : Sep w base is) : ∀ p ∈ foots is, ∃ o : Obj, w.heap[p]? = some o ∧ o.isCells = true := by
 intro p hp
 obtain ⟨i, hi, hp⟩ := List.mem_flatMap.1 hp
 obtain ⟨n, hn⟩ := List.getElem?_of_mem hi
 exact Item.cellsAt (h.holds n i hn) p hp
theorem Sep.turned {row : Option Nat} (h : Sep w base is) (hg : w.grownBy w' row) (hr : ∀ r, row = some r → ∃ o : Obj, w.heap[r]? = some o ∧ o.isCells = false) : Sep w' base is :=
 ⟨fun n i hi => Item.same (h.holds n i hi) fun p hp => hg.block p (Item.lt (h.holds n i hi) p hp) (fun e => by
  obtain ⟨o, ho, hc⟩ := Item.cellsAt (h.holds n i hi) p hp
  obtain ⟨o', ho', hc'⟩ := hr p e.symm
  rw [ho] at ho'
  injection ho' with ho'
  rw [← ho', hc] at hc'
  cases hc'), h.nodup, h.ge⟩
theorem Sep.putObj {l : Nat} {o : Obj} (h : Sep w base is) (o' : Obj) (hl : w.heap[l]? = some o) (ho : o.isCells = false) : Sep (w.putObj l o') base is :=
 h.turned (grownBy_putObj' w l o') fun r e => by cases e; exact ⟨o, hl, ho⟩
end
theorem keeps_touch {S : List Nat} {W W' : World} (t : Touch S W W') (hS : ∀ p ∈ S, p < W.heap.size → ∃ o : Obj, W.heap[p]? = some o ∧ o.isCells = true) : KeepsOthers W W' :=
 ⟨t.size, fun k o hk ho => by
  have hlt := (Array.getElem?_eq_some_iff.1 hk).1
  refine (t.block k hlt fun hm => ?_).trans hk
  obtain ⟨o', h1, h2⟩ := hS k hm hlt
  rw [hk] at h1
  injection h1 with h1
  rw [← h1, ho] at h2
  cases h2⟩
theorem keeps_own {W W' : World} {ds : List Dat} {vs : List Value} {fp : List Nat} (t : Touch fp W W') (h : Ow W ds vs fp) : KeepsOthers W W' := keeps_touch t fun p hp _ => h.cellsAt p hp
theorem wpIn_of_append {F : Fence} {n : Nat} {P : Program} {op : Oper} {a : Act} {Q : Exit → Act → World → Prop} {K : Act → World → Prop} {w : World} (s x : Operand) (t : TypeId)
    (hop : op.op = .call { callee := .builtin .append, args := #[s, x], argTypes := #[t, t] }) (h : Oper.wp P op a w K Q) : Oper.wpIn F n P op a w K Q := by
 unfold Oper.wpIn
 refine ⟨by simp [Oper.about, hop, resolve, Target.leads, Sem.run_pure], ?_⟩
 rw [Oper.semAt_plain F _ _ (by rw [hop]; intro c hc'; cases hc')]
 unfold Oper.wp at h
 revert h
 simp only [execOp, hop, resolve, invoke, builtin, Sem.run_bind, Sem.run_pure, Result.andThen_ok, List.map_toArray, List.map_cons, List.map_nil]
 intro h
 generalize Sem.run P (Builtin.append_ #[t, t] op.type #[a.eval s, a.eval x]) w = r at *
 cases r with
 | ok v w2 => exact h
 | halt x w2 => cases x <;> exact h
section
variable {α : Type} {f : α → List Dat} {e : TypeId} {k : Nat} {w : World} {l : List α} {fp : List Nat}
theorem wpListIn_append_elem {F : Fence} {m : Nat} {P : Program} {t : TypeId} {z : Value} {bytes : Nat} {A : Option Addr} {n c hb : Nat} {es : List Value} {f2 : List Nat} {y : α} {ops : Array Oper} {rest : List Oper} {op : Oper} {a : Act} {Q : Exit → Act → World → Prop}
    (hgd : op.guard = none) (s x : Operand) (hop : op.op = .call { callee := .builtin .append, args := #[s, x], argTypes := #[t, t] }) (ht : P.underlying t = some (.slice e))
    (hinfo : (P.info? e).map (fun i => (i.zero, i.size, i.bytes)) = some (some z, k, bytes)) (hzs : z.cells.size = k) (k0 : 0 < k) (hk : ∀ x, (f x).length = k)
    (hse : a.eval s = .slice A n c) (h : Ow w [Go.Proofs.YtmjifhjhialcbaaGreat.lst e k f l] [.slice A n c] fp) (hn : fp.Nodup) (hx : a.eval x = .slice (some ⟨hb, 0, none⟩) 1 1)
    (hcell : ∀ i, i < k → w.cell? ⟨hb, i, none⟩ = es[i]?) (ho : Ow w (f y) es f2) (hn2 : f2.Nodup) (hd : ∀ p ∈ f2, p ∉ fp) (hl : n ≤ 1048577) (hby : bytes ≤ 1048576)
    (hK : ∀ A3 c3 w3 fp3, Ow w3 [Go.Proofs.YtmjifhjhialcbaaGreat.lst e k f (l ++ [y])] [.slice A3 (n + 1) c3] fp3 → fp3.Nodup → (∀ p ∈ fp3, p ∈ fp ∨ p ∈ f2 ∨ p = w.heap.size) → Touch fp w w3 → wpListIn F m P ops Q rest (a.put op.dst (.slice A3 (n + 1) c3)) w3) :
    wpListIn F m P ops Q (op :: rest) a w :=
 wpListIn_plain hgd fun _ hK' => wpIn_of_append s x t hop (wp_append_elem s x hop ht hinfo hzs k0 hk hse h hn hx hcell ho hn2 hd hl hby fun A3 c3 w3 fp3 a1 a2 a3 a4 => hK' _ _ (hK A3 c3 w3 fp3 a1 a2 a3 a4))
end
def selfR (v : Value) : Option (DataW Value × List MemPlace) := some (.held v, [])
def w64 (x : Int) : Prop := (Lit.int .i64 x).wf = true
def IMap (P : Program) (k : TypeId) (w : World) (b n c : Nat) (f : Int → Option Value) : Prop :=
 ∃ D : DataW Value, w.ownsMap P k selfR b n D ∧ Maps.Tidy D ∧ Maps.size D = c ∧ ∀ x, w64 x → Maps.has D (.int .i64 x) = (f x).isSome ∧ ∀ z, D.atKey (.int .i64 x) (.held z) = .held ((f x).getD z)
def putF (f : Int → Option Value) (x : Int) (v : Value) : Int → Option Value := fun y => if y = x then some v else f y
def delF (f : Int → Option Value) (x : Int) : Int → Option Value := fun y => if y = x then none else f y
section
variable {P : Program} {k t e : TypeId} {w w' : World} {b n c : Nat} {f : Int → Option Value}
theorem IMap.made (P : Program) (k : TypeId) (w : World) : IMap P k (w.alloc (.map #[] 0)) w.heap.size 0 0 (fun _ => none) :=
 ⟨.map [], World.ownsMap_made w P k selfR, Maps.tidy_empty, rfl, fun _ _ => ⟨rfl, fun _ => rfl⟩⟩
theorem IMap.same (h : IMap P k w b n c f) (hb : w'.heap[b]? = w.heap[b]?) : IMap P k w' b n c f := by
 obtain ⟨D, ⟨es, clock, h1, h2⟩, h3⟩ := h
 exact ⟨D, ⟨es, clock, hb.trans h1, h2⟩, h3⟩
theorem IMap.lt (h : IMap P k w b n c f) : b < w.heap.size := by
 obtain ⟨D, ⟨es, clock, h1, _⟩, _⟩ := h
 exact (Array.getElem?_eq_some_iff.1 h1).1
theorem IMap.keep {B : Nat} (h : IMap P k w b n c f) (hw : Below B w w') (hb : b < B) : IMap P k w' b n c f := h.same (hw.block b hb)
theorem IMap.touch {S : List Nat} (h : IMap P k w b n c f) (t : Touch S w w') (hS : ∀ p ∈ S, p < w.heap.size → ∃ o : Obj, w.heap[p]? = some o ∧ o.isCells = true) : IMap P k w' b n c f := by
 obtain ⟨D, ⟨es, clock, h1, h2⟩, h3⟩ := h
 exact ⟨D, ⟨es, clock, (keeps_touch t hS).same b _ h1 rfl, h2⟩, h3⟩
theorem isKey64 (x : Int) (P : Program) (k : TypeId) (K : Maps.Keyed P k) (hk : P.underlying k = some (.int .i64)) (hx : w64 x) : WideAt.IsKeyLit (.int .i64 x) := K.key (Maps.keyOf_int_mk hk hx)
theorem IMap.put (h : IMap P k w b n c f) (hk : P.underlying k = some (.int .i64)) (ht : P.underlying t = some (.map k e)) (hn : n < maxLen) {x : Int} (hx : w64 x) (v : Value) :
    ∃ w', (Instr.mapUpdate t (.map (some b)) (.int .i64 x) v).run P w = .ok () w' ∧ IMap P k w' b (n + 1) (if (f x).isSome = true then c else c + 1) (putF f x v) ∧ w.grownBy w' (some b) := by
 obtain ⟨D, h1, h2, h3, h4⟩ := h
 have K := Maps.int_keyed hk
 have hl := isKey64 x P k K hk hx
 obtain ⟨w', r1, r2, r3⟩ := h1.update K ht hn (Maps.keyOf_int_mk hk hx) (show selfR v = some (.held v, []) from rfl)
 refine ⟨w', r1, ⟨_, r2, h2.put hl _, ?_, fun y hy => ?_⟩, r3⟩
 · rw [Maps.size_put h2, (h4 x hx).1, h3]
 · unfold putF
   by_cases e : y = x
   · subst e
     rw [if_pos rfl]
     exact ⟨Maps.has_put_same h2.isMap hl _, fun z => Maps.atKey_put_same h2.isMap hl _ _⟩
   · have hne : Lit.int .i64 y ≠ Lit.int .i64 x := fun h => e (by injection h)
     rw [if_neg e, Maps.has_put_other hne]
     exact ⟨(h4 y hy).1, fun z => by rw [Maps.atKey_put_other hne]; exact (h4 y hy).2 z⟩
theorem IMap.del (h : IMap P k w b n c f) (hk : P.underlying k = some (.int .i64)) (ht : P.underlying t = some (.map k e)) {x : Int} (hx : w64 x) (ty : TypeId) :
    ∃ w', (Builtin.delete_ #[t, k] ty #[.map (some b), .int .i64 x]).run P w = .ok (.tuple #[]) w' ∧ IMap P k w' b n (if (f x).isSome = true then c - 1 else c) (delF f x) ∧ w.grownBy w' (some b) := by
 obtain ⟨D, h1, h2, h3, h4⟩ := h
 have K := Maps.int_keyed hk
 obtain ⟨w', r1, r2, r3⟩ := h1.drop K ht (Maps.keyOf_int_mk hk hx) ty
 refine ⟨w', r1, ⟨_, r2, h2.del _, ?_, fun y hy => ?_⟩, r3.grown⟩
 · have := Maps.size_del (k := Lit.int .i64 x) h2
   rw [(h4 x hx).1, h3] at this
   split at this <;> split <;> simp_all <;> omega
 · unfold delF
   by_cases e : y = x
   · subst e
     rw [if_pos rfl]
     exact ⟨Maps.has_del_same, fun z => Maps.atKey_del_same _⟩
   · have hne : Lit.int .i64 y ≠ Lit.int .i64 x := fun h => e (by injection h)
     rw [if_neg e, Maps.has_del_other hne]
     exact ⟨(h4 y hy).1, fun z => by rw [Maps.atKey_del_other hne]; exact (h4 y hy).2 z⟩
theorem IMap.len (h : IMap P k w b n c f) (ht : P.underlying t = some (.map k e)) (ty : TypeId) : (Builtin.len_ #[t] ty #[.map (some b)]).run P w = .ok (.int .i64 (c : Int)) w := by
 obtain ⟨D, h1, _, h3, _⟩ := h
 have := h1.len ht ty
 rw [h3] at this
 exact this
end
theorem wpList_putF {P : Program} {k e : TypeId} {w : World} {b n c : Nat} {f : Int → Option Value} {ops : Array Oper} {rest : List Oper} {o : Oper} {a : Act} {Q : Exit → Act → World → Prop}
    (hg : o.guard = none) (m x v : Operand) (t : TypeId) (hop : o.op = Op.mapUpdate t m x v) (hk : P.underlying k = some (.int .i64)) (ht : P.underlying t = some (.map k e)) (hm : a.eval m = .map (some b)) (h : IMap P k w b n c f) (hn : n < maxLen)
    (y : Int) (val : Value) (hx : a.eval x = .int .i64 y) (hv : a.eval v = val) (hy : w64 y)
    (hK : ∀ w', IMap P k w' b (n + 1) (if (f y).isSome = true then c else c + 1) (putF f y val) → w.grownBy w' (some b) → wpList P ops Q rest (a.put o.dst undef) w') :
    wpList P ops Q (o :: rest) a w := by
 refine wpList_plain hg fun K' hK' => ?_
 obtain ⟨w', hrun, r1, r2⟩ := h.put hk ht hn hy val
 unfold Oper.wp
 simp [execOp, hop, hm, hx, hv, hrun, Result.andThen]
 exact hK' _ _ (hK w' r1 r2)
theorem wpList_delF {P : Program} {k e : TypeId} {w : World} {b n c : Nat} {f : Int → Option Value} {ops : Array Oper} {rest : List Oper} {o : Oper} {a : Act} {Q : Exit → Act → World → Prop}
    (hg : o.guard = none) (m x : Operand) (t : TypeId) (hop : o.op = Op.call { callee := Callee.builtin Builtin.delete, args := #[m, x], argTypes := #[t, k] }) (hk : P.underlying k = some (.int .i64)) (ht : P.underlying t = some (.map k e)) (hm : a.eval m = .map (some b)) (h : IMap P k w b n c f)
    (y : Int) (hx : a.eval x = .int .i64 y) (hy : w64 y)
    (hK : ∀ w', IMap P k w' b n (if (f y).isSome = true then c - 1 else c) (delF f y) → w.grownBy w' (some b) → wpList P ops Q rest (a.put o.dst (.tuple #[])) w') :
    wpList P ops Q (o :: rest) a w := by
 refine wpList_plain hg fun K' hK' => ?_
 obtain ⟨w', hrun, r1, r2⟩ := h.del hk ht hy o.type
 unfold Oper.wp
 simp [execOp, hop, resolve, invoke, builtin, hm, hx, hrun, Result.andThen]
 exact hK' _ _ (hK w' r1 r2)
def mrkV (x : MarkM) : Value := .agg #[.int .i64 x.mc, .int .i64 x.ms, .int .i64 x.mi]
def tabF (l : List MarkM) (x : Int) : Option Value := (l.find? fun m => m.mi == x).map mrkV
def Apart (l : List MarkM) : Prop := l.Pairwise (fun a b => a.mi ≠ b.mi)
def delT (l : List MarkM) (i : Int) : List MarkM := l.filter fun m => decide (m.mi ≠ i)
def putT (l : List MarkM) (x : MarkM) : List MarkM := delT l x.mi ++ [x]
theorem tabF_any (l : List MarkM) (x : Int) : (tabF l x).isSome = l.any fun m => m.mi == x := by
 unfold tabF
 rw [Option.isSome_map, Bool.eq_iff_iff, List.find?_isSome, List.any_eq_true]
theorem tabF_at {l : List MarkM} (h : Apart l) {m : MarkM} (hm : m ∈ l) : tabF l m.mi = some (mrkV m) := by
 unfold tabF
 induction l with
 | nil => cases hm
 | cons a t ih =>
  obtain ⟨h1, h2⟩ := List.pairwise_cons.1 h
  rw [List.find?_cons]
  by_cases e : a.mi = m.mi
  · rcases List.mem_cons.1 hm with rfl | hm
    · simp
    · exact absurd e (h1 m hm)
  · rcases List.mem_cons.1 hm with rfl | hm
    · exact absurd rfl e
    · have : (a.mi == m.mi) = false := by simpa using e
      rw [this]
      exact ih h2 hm
theorem tabF_del (l : List MarkM) (i : Int) : tabF (delT l i) = delF (tabF l) i := by
 funext y
 unfold delF tabF delT
 rw [List.find?_filter]
 by_cases e : y = i
 · subst e
   rw [if_pos rfl, List.find?_eq_none.2 fun x hx => by simp]
   rfl
 · rw [if_neg e]
   congr 2
   funext m
   by_cases h : m.mi = y
   · subst h
     simp [e]
   · have : (m.mi == y) = false := by simpa using h
     rw [this]
     simp
theorem tabF_put (l : List MarkM) (x : MarkM) : tabF (putT l x) = putF (tabF l) x.mi (mrkV x) := by
 funext y
 have hd := congrFun (tabF_del l x.mi) y
 unfold putF
 unfold tabF putT at *
 rw [List.find?_append]
 by_cases e : y = x.mi
 · subst e
   rw [if_pos rfl]
   unfold delF at hd
   rw [if_pos rfl, Option.map_eq_none_iff] at hd
   rw [hd]
   simp
 · rw [if_neg e]
   unfold delF at hd
   rw [if_neg e] at hd
   have : (x.mi == y) = false := by simpa using fun h => e h.symm
   rw [List.find?_cons, this, List.find?_nil, Option.or_none]
   exact hd
theorem del_len {l : List MarkM} (h : Apart l) (i : Int) : (delT l i).length = if (tabF l i).isSome = true then l.length - 1 else l.length := by
 rw [tabF_any]
 unfold delT
 induction l with
 | nil => rfl
 | cons a t ih =>
  obtain ⟨h1, h2⟩ := List.pairwise_cons.1 h
  have h3 := ih h2
  by_cases e : a.mi = i
  · subst e
    have h4 : (t.any fun m => m.mi == a.mi) = false := by
     rw [List.any_eq_false]
     intro m hm
     simpa using fun h => h1 m hm h.symm
    rw [h4] at h3
    rw [List.filter_cons, if_neg (by simp), h3]
    simp
  · have h4 : ((a :: t).any fun m => m.mi == i) = t.any fun m => m.mi == i := by
      rw [List.any_cons]
      have : (a.mi == i) = false := by simpa using e
      rw [this, Bool.false_or]
    rw [h4, List.filter_cons, if_pos (by simpa using e), List.length_cons, h3]
    split
    next hh =>
     have : 0 < t.length := by
      rcases t with _ | ⟨q, t⟩
      · cases hh
      · simp
     simp
     omega
    next => rfl
theorem del_apart {l : List MarkM} (h : Apart l) (i : Int) : Apart (delT l i) := List.Pairwise.filter _ h
theorem put_apart {l : List MarkM} (h : Apart l) (x : MarkM) : Apart (putT l x) := by
 unfold Apart putT
 rw [List.pairwise_append]
 refine ⟨del_apart h _, List.pairwise_singleton _ _, fun a ha b hb => ?_⟩
 have : b = x := by simpa using hb
 subst this
 simpa [delT] using (List.mem_filter.1 ha).2
theorem put_len {l : List MarkM} (h : Apart l) (x : MarkM) : (putT l x).length = if (tabF l x.mi).isSome = true then l.length else l.length + 1 := by
 unfold putT
 rw [List.length_append, del_len h, List.length_singleton]
 split
 next hh =>
  have : 0 < l.length := by
   rcases l with _ | ⟨q, t⟩
   · cases hh
   · simp
  omega
 next => rfl
theorem tabF_perm {l l' : List MarkM} (h : Apart l) (hp : l.Perm l') : tabF l = tabF l' := by
 funext y
 have h' : Apart l' := (hp.pairwise_iff (fun {_ _} hne => Ne.symm hne)).1 h
 by_cases e : ∃ m ∈ l, m.mi = y
 · obtain ⟨m, hm, rfl⟩ := e
   rw [tabF_at h hm, tabF_at h' (hp.mem_iff.1 hm)]
 · have h1 : ∀ L : List MarkM, (∀ m ∈ L, m.mi ≠ y) → tabF L y = none := fun L hL => by
     unfold tabF
     rw [List.find?_eq_none.2 fun x hx => by simpa using hL x hx]
     rfl
   rw [h1 l fun m hm h2 => e ⟨m, hm, h2⟩, h1 l' fun m hm h2 => e ⟨m, hp.mem_iff.2 hm, h2⟩]
theorem IMap.tight {P : Program} {k : TypeId} {w : World} {b n c : Nat} {f : Int → Option Value} (h : IMap P k w b n c f) : IMap P k w b c c f := by
 obtain ⟨D, ⟨es, clock, h1, F, hs, hD⟩, h2, h3, h4⟩ := h
 refine ⟨D, ⟨es, clock, h1, F, ?_, hD⟩, h2, h3, h4⟩
 subst hD
 rw [← h3]
 simp [Maps.size, length_sorted]
structure Tab (w : World) (b : Nat) (l : List MarkM) : Prop where
 map : IMap Tryz.prog 2 w b l.length l.length (tabF l)
 apart : Apart l
 fit : ∀ m ∈ l, w64 m.mi
theorem Tab.perm {w : World} {b : Nat} {l l' : List MarkM} (h : Tab w b l) (hp : l.Perm l') : Tab w b l' :=
 ⟨by rw [← hp.length_eq, ← tabF_perm h.apart hp]; exact h.map, (hp.pairwise_iff (fun {_ _} hne => Ne.symm hne)).1 h.apart, fun m hm => h.fit m (hp.mem_iff.2 hm)⟩
theorem Tab.lt {w : World} {b : Nat} {l : List MarkM} (h : Tab w b l) : b < w.heap.size := h.map.lt
theorem Tab.same {w w' : World} {b : Nat} {l : List MarkM} (h : Tab w b l) (hb : w'.heap[b]? = w.heap[b]?) : Tab w' b l := ⟨h.map.same hb, h.apart, h.fit⟩
theorem Tab.keep {B : Nat} {w w' : World} {b : Nat} {l : List MarkM} (h : Tab w b l) (hw : Below B w w') (hb : b < B) : Tab w' b l := ⟨h.map.keep hw hb, h.apart, h.fit⟩
theorem Tab.made (w : World) : Tab (w.alloc (.map #[] 0)) w.heap.size [] := ⟨IMap.made Tryz.prog 2 w, List.Pairwise.nil, fun m hm => by cases hm⟩
theorem Tab.grown {w w' : World} {b : Nat} {l : List MarkM} {row : Option Nat} (h : Tab w b l) (hg : w.grownBy w' row) (hr : some b ≠ row) : Tab w' b l := h.same (hg.block b h.lt hr)
theorem Tab.put_ {w w' : World} {b : Nat} {l : List MarkM} (h : Tab w b l) (x : MarkM) (hx : w64 x.mi) (h' : IMap Tryz.prog 2 w' b (l.length + 1) (if (tabF l x.mi).isSome = true then l.length else l.length + 1) (putF (tabF l) x.mi (mrkV x))) : Tab w' b (putT l x) :=
 ⟨by rw [put_len h.apart, tabF_put]; exact h'.tight, put_apart h.apart x, fun m hm => by
  rcases List.mem_append.1 hm with hm | hm
  · exact h.fit m (List.mem_filter.1 hm).1
  · have : m = x := by simpa using hm
    subst this
    exact hx⟩
theorem Tab.del_ {w w' : World} {b : Nat} {l : List MarkM} (h : Tab w b l) (i : Int) (h' : IMap Tryz.prog 2 w' b l.length (if (tabF l i).isSome = true then l.length - 1 else l.length) (delF (tabF l) i)) : Tab w' b (delT l i) :=
 ⟨by rw [del_len h.apart, tabF_del]; exact h'.tight, del_apart h.apart i, fun m hm => h.fit m (List.mem_filter.1 hm).1⟩
theorem wpList_put_tab {w : World} {b : Nat} {l : List MarkM} {ops : Array Oper} {rest : List Oper} {o : Oper} {a : Act} {Q : Exit → Act → World → Prop}
    (hg : o.guard = none) (m x v : Operand) (t e : TypeId) (hop : o.op = Op.mapUpdate t m x v) (ht : Tryz.prog.underlying t = some (.map 2 e)) (hm : a.eval m = .map (some b)) (h : Tab w b l) (hn : l.length < maxLen)
    (y : MarkM) (hx : a.eval x = .int .i64 y.mi) (hv : a.eval v = mrkV y) (hy : w64 y.mi)
    (hK : ∀ w', Tab w' b (putT l y) → w.grownBy w' (some b) → wpList Tryz.prog ops Q rest (a.put o.dst undef) w') :
    wpList Tryz.prog ops Q (o :: rest) a w :=
 wpList_putF hg m x v t hop Tryz.underlying2 ht hm h.map hn y.mi (mrkV y) hx hv hy fun w' h1 h2 => hK w' (h.put_ y hy h1) h2
theorem wpList_del_tab {w : World} {b : Nat} {l : List MarkM} {ops : Array Oper} {rest : List Oper} {o : Oper} {a : Act} {Q : Exit → Act → World → Prop}
    (hg : o.guard = none) (m x : Operand) (t e : TypeId) (hop : o.op = Op.call { callee := Callee.builtin Builtin.delete, args := #[m, x], argTypes := #[t, 2] }) (ht : Tryz.prog.underlying t = some (.map 2 e)) (hm : a.eval m = .map (some b)) (h : Tab w b l)
    (i : Int) (hx : a.eval x = .int .i64 i) (hi : w64 i)
    (hK : ∀ w', Tab w' b (delT l i) → w.grownBy w' (some b) → wpList Tryz.prog ops Q rest (a.put o.dst (.tuple #[])) w') :
    wpList Tryz.prog ops Q (o :: rest) a w :=
 wpList_delF hg m x t hop Tryz.underlying2 ht hm h.map i hx hi fun w' h1 h2 => hK w' (h.del_ i h1) h2
def TabR (w : World) (b r : Nat) (l rest : List MarkM) (cnt : Nat) : Prop :=
 ∃ (D : DataW Value) (left : Lit → Bool), w.ranges Tryz.prog 2 selfR b r l.length D left cnt ∧ (∀ x, w64 x → ∀ z, D.atKey (.int .i64 x) (.held z) = .held ((tabF l x).getD z)) ∧ (∀ x, w64 x → left (.int .i64 x) = rest.any fun m => m.mi == x) ∧
  (∀ m ∈ rest, m ∈ l) ∧ Apart rest ∧ Apart l ∧ ∀ m ∈ l, w64 m.mi
section
variable {w w' : World} {b r cnt : Nat} {l rest : List MarkM}
theorem TabR.left_eq (h : TabR w b r l rest cnt) : w.rangeLeft b r = cnt := by obtain ⟨_, _, h, _⟩ := h; exact h.left_eq
theorem TabR.lt (h : TabR w b r l rest cnt) : r < w.heap.size := by obtain ⟨_, _, h, _⟩ := h; exact h.lt
theorem TabR.walk (h : TabR w b r l rest cnt) : ∃ o : Obj, w.heap[r]? = some o ∧ o.isWalk = true := by obtain ⟨_, _, h, _⟩ := h; exact h.iter_walk
theorem TabR.walks (h : TabR w b r l rest cnt) (hk : KeepsWalks w w') : TabR w' b r l rest cnt := by obtain ⟨D, left, h, h2⟩ := h; exact ⟨D, left, h.of_walks hk, h2⟩
theorem TabR.grown {row : Option Nat} (h : TabR w b r l rest cnt) (hg : w.grownBy w' row) (hb : some b ≠ row) (hr : some r ≠ row) : TabR w' b r l rest cnt := by obtain ⟨D, left, h, h2⟩ := h; exact ⟨D, left, h.kept hg hb hr, h2⟩
theorem TabR.keep (h : TabR w b r l rest cnt) (hw : Below w.heap.size w w') : TabR w' b r l rest cnt := by
 obtain ⟨D, left, h, h2⟩ := h
 have h3 := h.owns.lt
 have h4 := h.lt
 obtain ⟨es, clock, since, seen, c0, hb, F, hs, hD, hr, q⟩ := h
 exact ⟨D, left, ⟨es, clock, since, seen, c0, (hw.block b h3).trans hb, F, hs, hD, (hw.block r h4).trans hr, q⟩, h2⟩
theorem TabR.alloc (h : TabR w b r l rest cnt) (o : Obj) : TabR (w.alloc o) b r l rest cnt := h.keep ((Below.refl _ _).alloc (Nat.le_refl _) _)
theorem Tab.range {t e : TypeId} (h : Tab w b l) (ht : Tryz.prog.underlying t = some (.map 2 e)) :
    ∃ w', (Instr.range t (.map (some b))).run Tryz.prog w = .ok (.pointer (some ⟨w.heap.size, 0, none⟩)) w' ∧ (∃ cnt, TabR w' b w.heap.size l l cnt) ∧ w.grownBy w' none ∧ w'.heap.size = w.heap.size + 1 := by
 obtain ⟨D, h1, h2, h3, h4⟩ := h.map
 obtain ⟨w', r1, r2, r3, r4⟩ := h1.range (Maps.int_keyed Tryz.underlying2) ht
 exact ⟨w', r1, ⟨_, D, _, r2, fun x hx => (h4 x hx).2, fun x hx => by rw [(h4 x hx).1, tabF_any], fun m hm => hm, h.apart, h.apart, h.fit⟩, r3, r4⟩
theorem TabR.next (h : TabR w b r l rest cnt) (ty : TypeId) :
    (rest = [] ∧ (Instr.next (.pointer (some ⟨r, 0, none⟩)) false ty).run Tryz.prog w = .ok (.tuple #[.bool false]) w) ∨
    ∃ m ∈ rest, ∃ w' cnt', (Instr.next (.pointer (some ⟨r, 0, none⟩)) false ty).run Tryz.prog w = .ok (.tuple #[.bool true, .int .i64 m.mi, mrkV m]) w' ∧ TabR w' b r l (delT rest m.mi) cnt' ∧ cnt' < cnt ∧ w.grownBy w' (some r) ∧ w'.heap.size = w.heap.size ∧
     (Instr.entry (.pointer (some ⟨r, 0, none⟩))).run Tryz.prog w' = .ok (.tuple #[.int .i64 m.mi, mrkV m]) w' := by
 obtain ⟨D, left, h1, h2, h3, h4, h5, h6, h7⟩ := h
 rcases h1.next (Maps.int_keyed Tryz.underlying2) ty with ⟨_, hl, hrun⟩ | ⟨key, v, kl, y, w', cnt', hkey, hlk, hv, hat, hrun, hrg, hlt, hgr, hsz, hen⟩
 · refine Or.inl ⟨?_, hrun⟩
   rcases rest with _ | ⟨m, t⟩
   · rfl
   · have := h3 m.mi (h7 m (h4 m (by simp)))
     rw [hl] at this
     simp at this
 · obtain ⟨x, rfl, rfl, hx⟩ := Maps.keyOf_int_inv Tryz.underlying2 hkey
   have h8 := h3 x hx
   rw [hlk] at h8
   obtain ⟨m, hm, he⟩ := List.any_eq_true.1 h8.symm
   have he : m.mi = x := by simpa using he
   subst he
   have hvy : y = (.held v, []) := by unfold selfR at hv; injection hv with hv; exact hv.symm
   subst hvy
   have hvm : v = mrkV m := by
    have := (hat (.held undef)).symm.trans (h2 m.mi hx undef)
    rw [tabF_at h6 (h4 m hm)] at this
    injection this
   subst hvm
   refine Or.inr ⟨m, hm, w', cnt', hrun, ⟨D, _, hrg, h2, fun z hz => ?_, fun q hq => h4 q (List.mem_filter.1 hq).1, del_apart h5 _, h6, h7⟩, hlt, hgr, hsz, hen⟩
   show (left (.int .i64 z) && !(Lit.int .i64 z).sameKey (.int .i64 m.mi)) = _
   rw [h3 z hz, Bool.eq_iff_iff]
   unfold delT
   simp only [Bool.and_eq_true, List.any_eq_true, List.mem_filter, Bool.not_eq_true', beq_iff_eq, decide_eq_true_eq]
   constructor
   · rintro ⟨⟨q, hq, rfl⟩, hs⟩
     refine ⟨q, ⟨hq, fun e => ?_⟩, rfl⟩
     rw [e, WideAt.sameKey_self (isKey64 m.mi Tryz.prog 2 (Maps.int_keyed Tryz.underlying2) Tryz.underlying2 hx)] at hs
     cases hs
   · rintro ⟨q, ⟨hq, hne⟩, rfl⟩
     refine ⟨⟨q, hq, rfl⟩, ?_⟩
     cases hs : (Lit.int .i64 q.mi).sameKey (.int .i64 m.mi)
     · rfl
     · exact absurd (by have := WideAt.sameKey_eq hs; injection this) hne
end
section
variable {w : World} {ops : Array Oper} {rest : List Oper} {o : Oper} {a : Act} {Q : Exit → Act → World → Prop}
theorem wpList_range_tab (hg : o.guard = none) (m : Operand) (t e : TypeId) (hop : o.op = Op.range t m) (ht : Tryz.prog.underlying t = some (.map 2 e)) {b : Nat} {l : List MarkM}
    (hm : a.eval m = .map (some b)) (h : Tab w b l)
    (hK : ∀ w' cnt, TabR w' b w.heap.size l l cnt → w.grownBy w' none → w'.heap.size = w.heap.size + 1 → wpList Tryz.prog ops Q rest (a.put o.dst (.pointer (some ⟨w.heap.size, 0, none⟩))) w') :
    wpList Tryz.prog ops Q (o :: rest) a w := by
 refine wpList_plain hg fun K' hK' => ?_
 obtain ⟨w', hrun, ⟨cnt, r1⟩, r2, r3⟩ := h.range ht
 unfold Oper.wp
 simp [execOp, hop, hm, hrun, Result.andThen]
 exact hK' _ _ (hK w' cnt r1 r2 r3)
theorem wpList_next_tab (hg : o.guard = none) (it : Operand) (hop : o.op = Op.next it false) {b r cnt : Nat} {l left : List MarkM}
    (hit : a.eval it = .pointer (some ⟨r, 0, none⟩)) (h : TabR w b r l left cnt)
    (hDone : left = [] → wpList Tryz.prog ops Q rest (a.put o.dst (.tuple #[.bool false])) w)
    (hMore : ∀ (m : MarkM) (w' : World) (cnt' : Nat), m ∈ left → TabR w' b r l (delT left m.mi) cnt' → cnt' < cnt → w.grownBy w' (some r) → w'.heap.size = w.heap.size →
     (Instr.entry (.pointer (some ⟨r, 0, none⟩))).run Tryz.prog w' = .ok (.tuple #[.int .i64 m.mi, mrkV m]) w' → wpList Tryz.prog ops Q rest (a.put o.dst (.tuple #[.bool true, .int .i64 m.mi, mrkV m])) w') :
    wpList Tryz.prog ops Q (o :: rest) a w := by
 refine wpList_plain hg fun K' hK' => ?_
 unfold Oper.wp
 rcases h.next o.type with ⟨h0, hrun⟩ | ⟨m, hm, w', cnt', hrun, r1, r2, r3, r4, r5⟩
 · simp [execOp, hop, hit, hrun, Result.andThen]
   exact hK' _ _ (hDone h0)
 · simp [execOp, hop, hit, hrun, Result.andThen]
   exact hK' _ _ (hMore m w' cnt' hm r1 r2 r3 r4 r5)
end
end Go.Proofs.YtmjifhjhialcbaaGreat

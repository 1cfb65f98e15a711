/- Parts of my texts: Iter BookC BookI1 BookJ LogM LogN. -/
import Derived.Test.YthjjdelpdiipdaaGreatDoorMX16
import Derived.Laws.AppendOwn
import Derived.Laws.Append
import Derived.RangeFuncNested
import Derived.RangeFuncBound
import Derived.RangeFuncCalls
import Derived.RangeFuncLeaves
import Derived.Shelf.Abstract
import Derived.Shelf.RegionOpen
import Derived.OwnWalkIn
import Derived.TacticsInMore
import Derived.LoopNIn
import Derived.LoopIn
namespace Go.Proofs.YthjjdelpdiipdaaGreatDoor
set_option maxRecDepth 100000
set_option linter.unusedVariables false
open Go.RowKit
section
variable {w w' : World} {base : Nat} {is : List Item} {ds : List Dat} {vs : List Value} {fp : List Nat}
theorem Ow.cellsAt (h : Ow w ds vs fp) : ∀ p ∈ fp, ∃ o : Obj, w.heap[p]? = some o ∧ o.isCells = true := by
 induction h with
 | nil => intro p hp; cases hp
 | int _ ih => exact ih
 | bool _ ih => exact ih
 | row h1 _ _ ih1 ih2 =>
  intro p hp
  rcases List.mem_append.1 hp with hp | hp
  · rcases h1.2 with ⟨hv, _⟩ | ⟨g, cap, cur, hv, _, hg, _⟩
    · rw [hv] at hp; simp [Value.ownBlock] at hp
    · rw [hv] at hp
      have : p = g := by simpa [Value.ownBlock] using hp
      subst this
      exact ⟨_, hg, rfl⟩
  · rcases List.mem_append.1 hp with hp | hp
    · exact ih1 p hp
    · exact ih2 p hp
theorem Item.cellsAt {i : Item} (h : i.holds w) : ∀ p ∈ i.foot, ∃ o : Obj, w.heap[p]? = some o ∧ o.isCells = true := by
 cases i with
 | blk p cs t =>
  intro q hq
  have : q = p := by simpa [Item.foot] using hq
  subst this
  exact ⟨_, h, rfl⟩
 | own ds vs fp => exact Ow.cellsAt h
theorem Sep.cellsAt (h : Sep w base is) : ∀ p ∈ foots is, ∃ o : Obj, w.heap[p]? = some o ∧ o.isCells = true := by
 intro p hp
 obtain ⟨i, hi, hp⟩ := List.mem_flatMap.1 hp
 obtain ⟨n, hn⟩ := List.getElem?_of_mem hi
 exact Item.cellsAt (h.holds n i hn) p hp
theorem Sep.turned {row : Option Nat} (h : Sep w base is) (hg : w.grownBy w' row) (hr : ∀ r, row = some r → ∃ o : Obj, w.heap[r]? = some o ∧ o.isCells = false) : Sep w' base is :=
 ⟨fun n i hi => Item.same (h.holds n i hi) fun p hp => hg.block p (Item.lt (h.holds n i hi) p hp) (fun e => by
  obtain ⟨o, ho, hc⟩ := Item.cellsAt (h.holds n i hi) p hp
  obtain ⟨o', ho', hc'⟩ := hr p e.symm
  rw [ho] at ho'
  injection ho' with ho'
  rw [← ho', hc] at hc'
  cases hc'), h.nodup, h.ge⟩
theorem Sep.putObj {l : Nat} {o : Obj} (h : Sep w base is) (o' : Obj) (hl : w.heap[l]? = some o) (ho : o.isCells = false) : Sep (w.putObj l o') base is :=
 h.turned (grownBy_putObj' w l o') fun r e => by cases e; exact ⟨o, hl, ho⟩
end
theorem keeps_touch {S : List Nat} {W W' : World} (t : Touch S W W') (hS : ∀ p ∈ S, p < W.heap.size → ∃ o : Obj, W.heap[p]? = some o ∧ o.isCells = true) : KeepsOthers W W' :=
 ⟨t.size, fun k o hk ho => by
  have hlt := (Array.getElem?_eq_some_iff.1 hk).1
  refine (t.block k hlt fun hm => ?_).trans hk
  obtain ⟨o', h1, h2⟩ := hS k hm hlt
  rw [hk] at h1
  injection h1 with h1
  rw [← h1, ho] at h2
  cases h2⟩
theorem keeps_below {W W' : World} (h : Below W.heap.size W W') : KeepsOthers W W' := keeps_touch (Touch.of_below h []) fun p hp => by cases hp
theorem keeps_own {W W' : World} {ds : List Dat} {vs : List Value} {fp : List Nat} (t : Touch fp W W') (h : Ow W ds vs fp) : KeepsOthers W W' := keeps_touch t fun p hp _ => h.cellsAt p hp
theorem wpIn_of_append {F : Fence} {n : Nat} {P : Program} {op : Oper} {a : Act} {Q : Exit → Act → World → Prop} {K : Act → World → Prop} {w : World} (s x : Operand) (t : TypeId)
    (hop : op.op = .call { callee := .builtin .append, args := #[s, x], argTypes := #[t, t] }) (h : Oper.wp P op a w K Q) : Oper.wpIn F n P op a w K Q := by
 unfold Oper.wpIn
 refine ⟨by simp [Oper.about, hop, resolve, Target.leads, Sem.run_pure], ?_⟩
 rw [Oper.semAt_plain F _ _ (by rw [hop]; intro c hc'; cases hc')]
 unfold Oper.wp at h
 revert h
 simp only [execOp, hop, resolve, invoke, builtin, Sem.run_bind, Sem.run_pure, Result.andThen_ok, List.map_toArray, List.map_cons, List.map_nil]
 intro h
 generalize Sem.run P (Builtin.append_ #[t, t] op.type #[a.eval s, a.eval x]) w = r at *
 cases r with
 | ok v w2 => exact h
 | halt x w2 => cases x <;> exact h
section
variable {α : Type} {f : α → List Dat} {e : TypeId} {k : Nat} {w : World} {l : List α} {fp : List Nat}
theorem wpListIn_append_elem {F : Fence} {m : Nat} {P : Program} {t : TypeId} {z : Value} {bytes : Nat} {A : Option Addr} {n c hb : Nat} {es : List Value} {f2 : List Nat} {y : α} {ops : Array Oper} {rest : List Oper} {op : Oper} {a : Act} {Q : Exit → Act → World → Prop}
    (hgd : op.guard = none) (s x : Operand) (hop : op.op = .call { callee := .builtin .append, args := #[s, x], argTypes := #[t, t] }) (ht : P.underlying t = some (.slice e))
    (hinfo : (P.info? e).map (fun i => (i.zero, i.size, i.bytes)) = some (some z, k, bytes)) (hzs : z.cells.size = k) (k0 : 0 < k) (hk : ∀ x, (f x).length = k)
    (hse : a.eval s = .slice A n c) (h : Ow w [Go.Proofs.YthjjdelpdiipdaaGreatDoor.lst e k f l] [.slice A n c] fp) (hn : fp.Nodup) (hx : a.eval x = .slice (some ⟨hb, 0, none⟩) 1 1)
    (hcell : ∀ i, i < k → w.cell? ⟨hb, i, none⟩ = es[i]?) (ho : Ow w (f y) es f2) (hn2 : f2.Nodup) (hd : ∀ p ∈ f2, p ∉ fp) (hl : n ≤ 1048577) (hby : bytes ≤ 1048576)
    (hK : ∀ A3 c3 w3 fp3, Ow w3 [Go.Proofs.YthjjdelpdiipdaaGreatDoor.lst e k f (l ++ [y])] [.slice A3 (n + 1) c3] fp3 → fp3.Nodup → (∀ p ∈ fp3, p ∈ fp ∨ p ∈ f2 ∨ p = w.heap.size) → Touch fp w w3 → wpListIn F m P ops Q rest (a.put op.dst (.slice A3 (n + 1) c3)) w3) :
    wpListIn F m P ops Q (op :: rest) a w :=
 wpListIn_plain hgd fun _ hK' => wpIn_of_append s x t hop (wp_append_elem s x hop ht hinfo hzs k0 hk hse h hn hx hcell ho hn2 hd hl hby fun A3 c3 w3 fp3 a1 a2 a3 a4 => hK' _ _ (hK A3 c3 w3 fp3 a1 a2 a3 a4))
end
theorem ow_nil_ents (w : World) : Ow w [entD []] [.slice none 0 0] [] := Ow.row (n := 0) (us := []) (fp1 := []) (fp2 := []) (World.ownsRow_nil w 0 _ _) .nil .nil
theorem rd_split {w : World} {B : Nat} {b : BookM} {y0 y1 : Int} {v : Value} (h : Rd w B b.cells [.int .i64 y0, .int .i64 y1, v]) : y0 = b.base ∧ y1 = b.tm ∧ Rd w B [entD b.ents] [v] := by
 have o' : Rd w B (.int b.base :: .int b.tm :: [entD b.ents]) [.int .i64 y0, .int .i64 y1, v] := h
 obtain ⟨e0, o1⟩ := Rd.int_cons o'
 obtain ⟨e1, o2⟩ := Rd.int_cons o1
 injection e0 with _ e0
 injection e1 with _ e1
 exact ⟨e0, e1, o2⟩
def CBookOk (p : Nat) : Prop := ∀ (x0 x1 : Int) (A : Option Addr) (n cc : Nat) (l : List EntM) (w : World), Rd w w.heap.size [entD l] [.slice A n cc] → entSz l ≤ 1048577 → Calls Tryz.prog p #[.agg #[.int .i64 x0, .int .i64 x1, .slice A n cc]] w (fun e w' => e = .returned (.bool (bookB ⟨x0, x1, l⟩)) ∧ Below w.heap.size w w')
def CLastOf (p : Nat) : Prop := ∀ (x0 x1 : Int) (A : Option Addr) (n cc : Nat) (l : List EntM) (w : World), Rd w w.heap.size [entD l] [.slice A n cc] → entSz l ≤ 1048577 → Calls Tryz.prog p #[.agg #[.int .i64 x0, .int .i64 x1, .slice A n cc]] w (fun e w' => e = .returned (.int .i64 (lastM ⟨x0, x1, l⟩)) ∧ Below w.heap.size w w')
theorem CBookOk.at_ {p : Nat} (H : CBookOk p) (x0 x1 : Int) (A : Option Addr) (n cc : Nat) (d : BookM) (w : World) (h : Rd w w.heap.size (BookM.cells d) [.int .i64 x0, .int .i64 x1, .slice A n cc]) (hs : d.sz ≤ 1048576) :
    Calls Tryz.prog p #[.agg #[.int .i64 x0, .int .i64 x1, .slice A n cc]] w (fun e w' => e = .returned (.bool (bookB d)) ∧ Below w.heap.size w w') := by
 obtain ⟨e0, e1, h1⟩ := rd_split h
 subst e0 e1
 exact H _ _ A n cc d.ents w h1 (by rw [book_sz] at hs; unfold entSz; omega)
theorem CLastOf.at_ {p : Nat} (H : CLastOf p) (x0 x1 : Int) (A : Option Addr) (n cc : Nat) (d : BookM) (w : World) (h : Rd w w.heap.size (BookM.cells d) [.int .i64 x0, .int .i64 x1, .slice A n cc]) (hs : d.sz ≤ 1048576) :
    Calls Tryz.prog p #[.agg #[.int .i64 x0, .int .i64 x1, .slice A n cc]] w (fun e w' => e = .returned (.int .i64 (lastM d)) ∧ Below w.heap.size w w') := by
 obtain ⟨e0, e1, h1⟩ := rd_split h
 subst e0 e1
 exact H _ _ A n cc d.ents w h1 (by rw [book_sz] at hs; unfold entSz; omega)
end Go.Proofs.YthjjdelpdiipdaaGreatDoor
namespace Go.Proofs.YthjjdelpdiipdaaGreatDoor
set_option maxRecDepth 100000
set_option linter.unusedVariables false
open Go.RowKit
attribute [local go_sem] Oper.semAt_some
def encE (e : EntM) : Array Value := #[.agg #[.int .i64 e.idx, .int .i64 e.tm, .int .i64 e.cl, .int .i64 e.sq, .int .i64 e.kd, .int .i64 e.oa, .int .i64 e.ob, .int .i64 e.oc, .int .i64 e.od]]
def inE (a z : Int) (e : EntM) : Bool := decide (a ≤ e.idx) && decide (e.idx ≤ z)
def selN (l : List EntM) (a z : Int) (j : Nat) : List EntM := (l.take j).filter (inE a z)
def selE (l : List EntM) (a z : Int) : List EntM := l.filter (inE a z)
theorem selN_yes {l : List EntM} {a z : Int} {j : Nat} (hj : j < l.length) (h : inE a z l[j] = true) : selN l a z (j + 1) = selN l a z j ++ [l[j]] := by
 unfold selN
 rw [List.take_succ_eq_append_getElem hj, List.filter_append]
 simp [h]
theorem selN_no {l : List EntM} {a z : Int} {j : Nat} (hj : j < l.length) (h : inE a z l[j] = false) : selN l a z (j + 1) = selN l a z j := by
 unfold selN
 rw [List.take_succ_eq_append_getElem hj, List.filter_append]
 simp [h]
theorem selN_all {l : List EntM} {a z : Int} : selN l a z l.length = selE l a z := by
 unfold selN selE
 rw [List.take_length]
theorem selN_pre (l : List EntM) (a z : Int) (j : Nat) : selN l a z j <+: selE l a z := by
 unfold selN selE
 exact (List.take_prefix j l).filter _
theorem selN_lt {l : List EntM} {a z : Int} {j : Nat} (hj : j < l.length) (h : inE a z l[j] = true) : (selN l a z j).length < (selE l a z).length := by
 have h1 := (selN_pre l a z (j + 1)).length_le
 rw [selN_yes hj h, List.length_append, List.length_singleton] at h1
 omega
theorem iEntriesIn_any (x0 x1 : Int) (A : Option Addr) (n cc : Nat) (a z : Int) (w : World) :
    Calls Tryz.prog 92 #[.agg #[.int .i64 x0, .int .i64 x1, .slice A n cc], .int .i64 a, .int .i64 z] w fun e w' => e = .returned (.func (.func 133) #[] #[.pointer (some ⟨w.heap.size, 0, none⟩), .pointer (some ⟨w.heap.size + 1, 0, none⟩), .pointer (some ⟨w.heap.size + 1 + 1, 0, none⟩)]) ∧ w' = ((w.alloc (.cells #[.int .i64 x0, .int .i64 x1, .slice A n cc] 49)).alloc (.cells #[.int .i64 a] 2)).alloc (.cells #[.int .i64 z] 2) := by
 go_enter Tryz.func92, Tryz.ntmps92
 go_wp2
 go_ret
 exact ⟨rfl, rfl⟩
set_option maxHeartbeats 6400000 in
theorem iIter_in (l0 bb bf bl n₀ : Nat) (x0 x1 a z : Int) (A : Option Addr) (n cc : Nat) (es : List EntM) (Kp : World → World → Prop)
    (hKp : ∀ W W', Kp W W' → Below n₀ W W' ∧ W'.heap[bb]? = W.heap[bb]? ∧ W'.heap[bf]? = W.heap[bf]? ∧ W'.heap[bl]? = W.heap[bl]?)
    (J Jx : List EntM → World → Prop) (B9 : Nat) (hJ : AbidesFrom B9 J)
    (hY : ∀ pre x W1, J pre W1 → pre.length < (selE es a z).length → YieldAt Fence.wide (2 - 1) Tryz.prog l0 (encE x) W1 fun e W' => (e = .returned (.bool true) ∧ J (pre ++ [x]) W' ∧ Kp W1 W') ∨ (e = .returned (.bool false) ∧ Jx (pre ++ [x]) W'))
    (W : World) (h0 : Blk W bb #[.int .i64 x0, .int .i64 x1, .slice A n cc] 49) (h1 : Blk W bf #[.int .i64 a] 2) (h2 : Blk W bl #[.int .i64 z] 2)
    (hr : Rd W n₀ [entD es] [.slice A n cc]) (hn : n ≤ 1048577) (hB : n₀ ≤ W.heap.size) (hj0 : J [] W) :
    CallsIn Fence.wide 2 Tryz.prog 133 #[.func (.yield l0) #[] #[], .pointer (some ⟨bb, 0, none⟩), .pointer (some ⟨bf, 0, none⟩), .pointer (some ⟨bl, 0, none⟩)] W fun e W' => (∃ v, e = .returned v) ∧
     ((∃ xs, xs = selE es a z ∧ J xs W') ∨ (∃ pre, (pre <+: selE es a z ∧ pre ≠ []) ∧ Jx pre W')) := by
 refine callsIn_of_wp Tryz.func133 rfl trivial ?_ rfl
 simp only [Tryz.ntmps133, List.size_toArray, List.length_cons, List.length_nil, Nat.reduceAdd, Nat.reduceSub, Array.replicate_succ, Array.replicate_zero, List.push_toArray, List.append_toArray, List.nil_append, List.cons_append]
 have k0 : W.cell? ⟨bb, 2, none⟩ = some (.slice A n cc) := h0.cell 2
 gi_wp2
 gi_loopw [10] (fun i wr => ∃ j : Nat, j ≤ n ∧ i = .int .i64 (j : Int) ∧ J (selN es a z j) wr ∧ Blk wr bf #[.int .i64 a] 2 ∧ Blk wr bl #[.int .i64 z] 2 ∧ Rd wr n₀ [entD es] [.slice A n cc] ∧ n₀ ≤ wr.heap.size) (fun i _ => n - (intOf i).toNat)
 case atStart => exact ⟨0, Nat.zero_le _, rfl, hj0, h1, h2, hr, hB⟩
 case round =>
  obtain ⟨j, hj, rfl, hJs, b1, b2, hrd, hB2⟩ := hrel
  obtain ⟨_, _, _, e, hl, _, _, hel⟩ := hrd.ents
  injection e with e1 e2 e3
  subst e1 e2 e3
  have HJ := jd hJs
  have HR := jd hrd
  have B1 := jd b1
  have B2 := jd b2
  have HB := jd hB2
  have HL := jd hl
  clear h0 h1 h2 hr k0 hj0 hJs hrd hB hB2
  by_cases hlt : j < n
  case neg =>
   obtain rfl : j = n := by omega
   have HV := jd (show selN es a z j = selE es a z by rw [← HL.out, selN_all])
   clear b1 b2 hel hl
   gi_wp2
   go_end0
   exact ⟨⟨_, rfl⟩, .inl ⟨_, HV.out, HJ.out⟩⟩
  case pos =>
   obtain ⟨b, off, rfl, hb, hc⟩ := hel (by omega)
   have hjl : j < es.length := by have := HL.out; omega
   obtain ⟨hc0, hc1, hc2, hc3, hc4, hc5, hc6, hc7, hc8⟩ := hc j hjl
   obtain ⟨x, hx⟩ : ∃ x, x = es[j] := ⟨_, rfl⟩
   rw [← hx] at hc0 hc1 hc2 hc3 hc4 hc5 hc6 hc7 hc8
   have HY1 := jd (show inE a z x = true → selN es a z (j + 1) = selN es a z j ++ [x] from fun h => by rw [hx] at h ⊢; exact selN_yes hjl h)
   have HY0 := jd (show inE a z x = false → selN es a z (j + 1) = selN es a z j from fun h => by rw [hx] at h; exact selN_no hjl h)
   have HLT := jd (show inE a z x = true → (selN es a z j).length < (selE es a z).length from fun h => by rw [hx] at h; exact selN_lt hjl h)
   have HPR := jd (selN_pre es a z (j + 1))
   clear hx hc hel hl hjl
   obtain ⟨e0, e1, e2, e3, e4, e5, e6, e7, e8⟩ := x
   simp only at hc0 hc1 hc2 hc3 hc4 hc5 hc6 hc7 hc8
   have f0 : (wr.alloc (.cells #[.int .i64 e0, .int .i64 e1, .int .i64 e2, .int .i64 e3, .int .i64 e4, .int .i64 e5, .int .i64 e6, .int .i64 e7, .int .i64 e8] 98)).cell? ⟨bf, 0, none⟩ = some (.int .i64 a) := (b1.alloc _).cell 0
   have f1 : (wr.alloc (.cells #[.int .i64 e0, .int .i64 e1, .int .i64 e2, .int .i64 e3, .int .i64 e4, .int .i64 e5, .int .i64 e6, .int .i64 e7, .int .i64 e8] 98)).cell? ⟨bl, 0, none⟩ = some (.int .i64 z) := (b2.alloc _).cell 0
   have g1 := jd (b1.alloc (.cells #[.int .i64 e0, .int .i64 e1, .int .i64 e2, .int .i64 e3, .int .i64 e4, .int .i64 e5, .int .i64 e6, .int .i64 e7, .int .i64 e8] 98))
   have g2 := jd (b2.alloc (.cells #[.int .i64 e0, .int .i64 e1, .int .i64 e2, .int .i64 e3, .int .i64 e4, .int .i64 e5, .int .i64 e6, .int .i64 e7, .int .i64 e8] 98))
   have gr := jd (HR.out.keep ((Below.refl n₀ wr).alloc HB.out (.cells #[.int .i64 e0, .int .i64 e1, .int .i64 e2, .int .i64 e3, .int .i64 e4, .int .i64 e5, .int .i64 e6, .int .i64 e7, .int .i64 e8] 98)))
   have gB := jd (show n₀ ≤ (wr.alloc (.cells #[.int .i64 e0, .int .i64 e1, .int .i64 e2, .int .i64 e3, .int .i64 e4, .int .i64 e5, .int .i64 e6, .int .i64 e7, .int .i64 e8] 98)).heap.size by have := HB.out; simp; omega)
   have gJ := jd (hJ _ _ _ none HJ.out (World.grownBy_alloc wr (.cells #[.int .i64 e0, .int .i64 e1, .int .i64 e2, .int .i64 e3, .int .i64 e4, .int .i64 e5, .int .i64 e6, .int .i64 e7, .int .i64 e8] 98) none) (fun r e => by cases e))
   have HIN := jd (show inE a z ⟨e0, e1, e2, e3, e4, e5, e6, e7, e8⟩ = (decide (a ≤ e0) && decide (e0 ≤ z)) from rfl)
   clear b1 b2
   by_cases d1 : a ≤ e0
   case neg =>
    have d1' : e0 < a := by omega
    have HN := jd (HY0.out (by rw [HIN.out, decide_eq_false d1]; rfl))
    gi_wp2
    refine ⟨fun _ h => (by cases h), ?_⟩
    gi_wp2
    go_roundw
    case rel => exact ⟨j + 1, by omega, by go_num, by rw [HN.out]; exact gJ.out, g1.out, g2.out, gr.out, gB.out⟩
    case measure => simp [intOf]; omega
   case pos =>
    by_cases d2 : e0 ≤ z
    case neg =>
     have d2' : z < e0 := by omega
     have HN := jd (HY0.out (by rw [HIN.out, decide_eq_false d2, Bool.and_false]))
     gi_wp2
     refine ⟨fun _ h => (by cases h), ?_⟩
     gi_wp2
     go_roundw
     case rel => exact ⟨j + 1, by omega, by go_num, by rw [HN.out]; exact gJ.out, g1.out, g2.out, gr.out, gB.out⟩
     case measure => simp [intOf]; omega
    case pos =>
     have HIN1 := jd (show inE a z ⟨e0, e1, e2, e3, e4, e5, e6, e7, e8⟩ = true by rw [HIN.out, decide_eq_true d1, decide_eq_true d2]; rfl)
     have HN := jd (HY1.out HIN1.out)
     obtain ⟨fn, tmps, assign, body, hy, hR⟩ := hY _ ⟨e0, e1, e2, e3, e4, e5, e6, e7, e8⟩ _ gJ.out (HLT.out HIN1.out)
     simp only [encE] at hy
     have HRR := jd hR
     clear hR
     gi_wp2
     refine HRR.out.mono ?_
     rintro e W3 (⟨rfl, hJ3, hk3⟩ | ⟨rfl, hJx3⟩)
     · obtain ⟨q0, _, q1, q2⟩ := hKp _ _ hk3
       have G1 := jd (show Blk W3 bf #[.int .i64 a] 2 from q1.trans g1.out)
       have G2 := jd (show Blk W3 bl #[.int .i64 z] 2 from q2.trans g2.out)
       have GR := jd (gr.out.keep q0)
       have GB := jd (Nat.le_trans gB.out q0.size)
       have G3 := jd hJ3
       clear q0 q1 q2 hk3 hJ3 g1 g2 gr gB gJ HJ HR B1 B2
       gi_wp2
       go_roundw
       case rel => exact ⟨j + 1, by omega, by go_num, by rw [HN.out]; exact G3.out, G1.out, G2.out, GR.out, GB.out⟩
       case measure => simp [intOf]; omega
     · have G3 := jd hJx3
       clear hJx3
       gi_wp2
       refine bodyPost_ret (results_none rfl _ _ _) rfl ?_
       exact ⟨⟨_, rfl⟩, .inr ⟨_, ⟨by rw [← HN.out]; exact HPR.out, by simp⟩, G3.out⟩⟩
theorem iIter_stops (bb bf bl n₀ : Nat) (x0 x1 a z : Int) (A : Option Addr) (n cc : Nat) (es : List EntM) (Kp : World → World → Prop)
    (hKp : ∀ W W', Kp W W' → Below n₀ W W' ∧ W'.heap[bb]? = W.heap[bb]? ∧ W'.heap[bf]? = W.heap[bf]? ∧ W'.heap[bl]? = W.heap[bl]?)
    (w : World) (h0 : Blk w bb #[.int .i64 x0, .int .i64 x1, .slice A n cc] 49) (h1 : Blk w bf #[.int .i64 a] 2) (h2 : Blk w bl #[.int .i64 z] 2)
    (hr : Rd w n₀ [entD es] [.slice A n cc]) (hn : n ≤ 1048577) (hB : n₀ ≤ w.heap.size) :
    SeqStopsK Fence.wide 2 Tryz.prog 133 #[.pointer (some ⟨bb, 0, none⟩), .pointer (some ⟨bf, 0, none⟩), .pointer (some ⟨bl, 0, none⟩)] encE Kp (fun ys => ys = selE es a z) (fun pre => pre <+: selE es a z ∧ pre ≠ []) (selE es a z).length w :=
 fun l J Jx W hW hJ _ hY hj0 =>
  iIter_in l bb bf bl n₀ x0 x1 a z A n cc es Kp hKp J Jx W.heap.size hJ hY W (h0.keep hW h0.lt) (h1.keep hW h1.lt) (h2.keep hW h2.lt) (hr.keep (hW.mono hB)) hn (Nat.le_trans hB hW.size) hj0
end Go.Proofs.YthjjdelpdiipdaaGreatDoor
namespace Go.Proofs.YthjjdelpdiipdaaGreatDoor
set_option maxRecDepth 100000
set_option linter.unusedVariables false
open Go.RowKit
theorem selE_seq (a z : Int) : ∀ (l : List EntM) (k : Int), (∀ j (hj : j < l.length), l[j].idx = k + (j : Int)) → selE l a z = (l.take (z + 1 - k).toNat).drop (a - k).toNat
 | [], k, _ => by simp [selE]
 | x :: l, k, h => by
  have h0 : x.idx = k := by have := h 0 (by simp); simpa using this
  have ih := selE_seq a z l (k + 1) fun j hj => by
   have := h (j + 1) (by simp; omega)
   simp only [List.getElem_cons_succ] at this
   rw [this]
   omega
  have hf : selE (x :: l) a z = if inE a z x = true then x :: selE l a z else selE l a z := by unfold selE; rw [List.filter_cons]
  rw [hf, ih]
  have hin : inE a z x = (decide (a ≤ k) && decide (k ≤ z)) := by unfold inE; rw [h0]
  by_cases hz : k ≤ z
  · rw [show (z + 1 - k).toNat = (z + 1 - (k + 1)).toNat + 1 by omega, List.take_succ_cons]
    by_cases ha : a ≤ k
    · rw [if_pos (by rw [hin, decide_eq_true ha, decide_eq_true hz]; rfl), show (a - k).toNat = 0 by omega, show (a - (k + 1)).toNat = 0 by omega, List.drop_zero, List.drop_zero]
    · rw [if_neg (by rw [hin, decide_eq_false ha, Bool.false_and]; decide), show (a - k).toNat = (a - (k + 1)).toNat + 1 by omega, List.drop_succ_cons]
  · rw [if_neg (by rw [hin, decide_eq_false hz, Bool.and_false]; decide), show (z + 1 - k).toNat = 0 by omega, show (z + 1 - (k + 1)).toNat = 0 by omega]
    simp
theorem sel_back {b : BookM} (h : bookB b = true) (i : Int) : selE b.ents (b.base + 1) i = b.ents.take (i - b.base).toNat := by
 rw [selE_seq _ _ b.ents (b.base + 1) (book_idx h), show (b.base + 1 - (b.base + 1)).toNat = 0 by omega, List.drop_zero, show (i + 1 - (b.base + 1)).toNat = (i - b.base).toNat by omega]
def endM (b : BookM) : EntM := if b.ents.length = 0 then ⟨b.base, b.tm, 0, 0, 0, 0, 0, 0, 0⟩ else b.ents.getD (b.ents.length - 1) ent0
theorem endM_idx {b : BookM} (h : bookB b = true) : (endM b).idx = lastB b := by
 unfold endM lastB
 by_cases h0 : b.ents.length = 0
 · rw [if_pos h0, h0]; simp
 · have hj : b.ents.length - 1 < b.ents.length := by omega
   rw [if_neg h0, egetD hj, book_idx h _ hj]
   omega
def sameA (x y : AckM) : Bool := ackNs x == ackNs y
def sameAs (l r : List AckM) : Bool := decide (l.length = r.length) && (List.range l.length).all fun j => sameA (l.getD j ack0) (r.getD j ack0)
def sameHd (a b : HeadM) : Bool := decide (a.num = b.num) && (decide (a.base = b.base) && (decide (a.tm = b.tm) && sameMs a.seen b.seen))
def overN (n : LogM) : List MarkM × Bool := seenOverM n.head.seen n.book.ents
def owedM (n : LogM) : List AckM := (selE n.book.ents (n.dur + 1) 2000).map ackM
def headAt (n : LogM) (i : Int) : HeadM := ⟨n.head.num + 1, i, timeAt n.book i, (seenOverM n.head.seen (selE n.book.ents (n.book.base + 1) i)).1⟩
def mayForget (n : LogM) (i : Int) : Bool := inB i (n.head.base + 1) n.dur
def logN (n : LogM) : Bool := if n.more = true then (mayForget n n.next.base && sameHd n.next (headAt n n.next.base)) else sameHd n.next headZ
def logW (n : LogM) : Bool := sameAs n.owe (owedM n)
def logD (n : LogM) : Bool := inB n.dur n.book.base (lastB n.book)
def logS (n : LogM) : Bool := (overN n).2 && sameMs n.seen (overN n).1
def logB (n : LogM) : Bool := keptB n.two && (headOkB n.head && (bookB n.book && (decide (n.book.base = n.head.base) && (decide (n.book.tm = n.head.tm) && (logS n && (logD n && (logN n && logW n)))))))
def heldM (n : LogM) : List EntM := if logB n = true then selE n.book.ents (n.book.base + 1) n.dur else []
theorem agetD {l : List AckM} {j : Nat} (hj : j < l.length) : l.getD j ack0 = l[j] := by simp [List.getD, List.getElem?_eq_getElem hj]
theorem sameA_iff (x y : AckM) : sameA x y = true ↔ x = y := by
 unfold sameA
 rw [beq_iff_eq]
 cases x
 cases y
 simp [ackNs]
theorem sameAs_iff (l r : List AckM) : sameAs l r = true ↔ l = r := by
 constructor
 · intro h
   unfold sameAs at h
   simp only [Bool.and_eq_true, decide_eq_true_eq, List.all_eq_true, List.mem_range] at h
   refine List.ext_getElem h.1 fun j h1 h2 => ?_
   have := (sameA_iff _ _).1 (h.2 j h1)
   rwa [agetD h1, agetD h2] at this
 · rintro rfl
   unfold sameAs
   simp [(sameA_iff _ _).2 rfl]
theorem sameAs_len {l r : List AckM} (h : l.length ≠ r.length) : sameAs l r = false := by
 unfold sameAs
 rw [decide_eq_false h, Bool.false_and]
theorem sameAs_step {l r : List AckM} {j : Nat} (h : sameA (l.getD j ack0) (r.getD j ack0) = false) : sameAs l r = false := by
 rw [Bool.eq_false_iff]
 intro h2
 have e := (sameAs_iff l r).1 h2
 subst e
 rw [(sameA_iff _ _).2 rfl] at h
 cases h
theorem logB_iff (n : LogM) : logB n = true ↔ keptB n.two = true ∧ headOkB n.head = true ∧ bookB n.book = true ∧ n.book.base = n.head.base ∧ n.book.tm = n.head.tm ∧ logS n = true ∧ logD n = true ∧ logN n = true ∧ logW n = true := by
 unfold logB
 simp only [Bool.and_eq_true, decide_eq_true_eq]
theorem Rd.bookE {w : World} {B : Nat} {t : BookM} {v0 v1 v2 : Value} (h : Rd w B t.cells [v0, v1, v2]) : Rd w B [entD t.ents] [v2] := by
 obtain ⟨_, _, _, _, _, e, h9⟩ := h.bookT
 rw [e]
 exact h9
theorem sel_len (l : List EntM) (a z : Int) : (selE l a z).length ≤ l.length := List.length_filter_le _ _
theorem end_at {b : BookM} (hb : bookB b = true) {i : Int} (h1 : b.base < i) (h2 : i ≤ lastB b) : (endM ⟨b.base, b.tm, selE b.ents (b.base + 1) i⟩).tm = timeAt b i := by
 rw [sel_back hb]
 unfold lastB at h2
 have hl : (b.ents.take (i - b.base).toNat).length = (i - b.base).toNat := by rw [List.length_take]; omega
 unfold endM timeAt
 rw [if_neg (show ¬ (b.ents.take (i - b.base).toNat).length = 0 by omega), if_neg (show ¬ i = b.base by omega)]
 show ((b.ents.take (i - b.base).toNat).getD ((b.ents.take (i - b.base).toNat).length - 1) ent0).tm = _
 rw [hl]
 have e1 : (i - b.base).toNat - 1 < b.ents.length := by omega
 have e2 : (i - b.base - 1).toNat = (i - b.base).toNat - 1 := by omega
 rw [e2]
 congr 1
 simp [List.getD, show (i - b.base).toNat - 1 < (i - b.base).toNat by omega]
theorem forget_in {n : LogM} (hb : n.book.base = n.head.base) (hd : logD n = true) {i : Int} (h : mayForget n i = true) : n.book.base < i ∧ i ≤ lastB n.book := by
 have h1 := (inB_iff _ _ _).1 h
 have h2 := (inB_iff _ _ _).1 hd
 omega
end Go.Proofs.YthjjdelpdiipdaaGreatDoor

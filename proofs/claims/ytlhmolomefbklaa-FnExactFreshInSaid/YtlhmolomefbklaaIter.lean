/-
  A range over a function, over plain data: pieces that abide the turn of a block that is no cells; what a body keeps; append inside a fence.
-/
import Derived.Test.YtlhmolomefbklaaParts
import Derived.Test.YtlhmolomefbklaaMove
import Derived.RangeFuncNested
import Derived.RangeFuncBound
import Derived.RangeFuncCalls
import Derived.RangeFuncLeaves
import Derived.Shelf.Abstract
import Derived.Shelf.RegionOpen
import Derived.WalkKit
import Derived.OwnWalkIn
import Derived.TacticsInMore
import Derived.LoopNIn
import Derived.LoopIn
namespace Go.Proofs.Ytlhmolomefbklaa
set_option maxRecDepth 100000
open Go.RowKit

section
variable {w w' : World} {base : Nat} {is : List Item} {ds : List Dat} {vs : List Value} {fp : List Nat}

theorem Ow.cellsAt (h : Ow w ds vs fp) : ∀ p ∈ fp, ∃ o : Obj, w.heap[p]? = some o ∧ o.isCells = true := by
  induction h with
  | nil => intro p hp; cases hp
  | int _ ih => exact ih
  | bool _ ih => exact ih
  | row h1 _ _ ih1 ih2 =>
    intro p hp
    rcases List.mem_append.1 hp with hp | hp
    · rcases h1.2 with ⟨hv, _⟩ | ⟨g, cap, cur, hv, _, hg, _⟩
      · rw [hv] at hp; simp [Value.ownBlock] at hp
      · rw [hv] at hp
        have : p = g := by simpa [Value.ownBlock] using hp
        subst this
        exact ⟨_, hg, rfl⟩
    · rcases List.mem_append.1 hp with hp | hp
      · exact ih1 p hp
      · exact ih2 p hp
theorem Item.cellsAt {i : Item} (h : i.holds w) : ∀ p ∈ i.foot, ∃ o : Obj, w.heap[p]? = some o ∧ o.isCells = true := by
  cases i with
  | blk p cs t =>
    intro q hq
    have : q = p := by simpa [Item.foot] using hq
    subst this
    exact ⟨_, h, rfl⟩
  | own ds vs fp => exact Ow.cellsAt h
theorem Sep.cellsAt (h : Sep w base is) : ∀ p ∈ foots is, ∃ o : Obj, w.heap[p]? = some o ∧ o.isCells = true := by
  intro p hp
  obtain ⟨i, hi, hp⟩ := List.mem_flatMap.1 hp
  obtain ⟨n, hn⟩ := List.getElem?_of_mem hi
  exact Item.cellsAt (h.holds n i hn) p hp
/-- The pieces stand on where a block that is no cells has turned. -/
theorem Sep.turned {row : Option Nat} (h : Sep w base is) (hg : w.grownBy w' row) (hr : ∀ r, row = some r → ∃ o : Obj, w.heap[r]? = some o ∧ o.isCells = false) : Sep w' base is :=
  ⟨fun n i hi => Item.same (h.holds n i hi) fun p hp => hg.block p (Item.lt (h.holds n i hi) p hp) (fun e => by
    obtain ⟨o, ho, hc⟩ := Item.cellsAt (h.holds n i hi) p hp
    obtain ⟨o', ho', hc'⟩ := hr p e.symm
    rw [ho] at ho'
    injection ho' with ho'
    rw [← ho', hc] at hc'
    cases hc'), h.nodup, h.ge⟩
theorem Sep.putObj {l : Nat} {o : Obj} (h : Sep w base is) (o' : Obj) (hl : w.heap[l]? = some o) (ho : o.isCells = false) : Sep (w.putObj l o') base is :=
  h.turned (grownBy_putObj' w l o') fun r e => by cases e; exact ⟨o, hl, ho⟩
end
/-- What was written are cells: whatever is no cells lies as it lay. -/
theorem keeps_touch {S : List Nat} {W W' : World} (t : Touch S W W') (hS : ∀ p ∈ S, p < W.heap.size → ∃ o : Obj, W.heap[p]? = some o ∧ o.isCells = true) : KeepsOthers W W' :=
  ⟨t.size, fun k o hk ho => by
    have hlt := (Array.getElem?_eq_some_iff.1 hk).1
    refine (t.block k hlt fun hm => ?_).trans hk
    obtain ⟨o', h1, h2⟩ := hS k hm hlt
    rw [hk] at h1
    injection h1 with h1
    rw [← h1, ho] at h2
    cases h2⟩
theorem keeps_below {W W' : World} (h : Below W.heap.size W W') : KeepsOthers W W' := keeps_touch (Touch.of_below h []) fun p hp => by cases hp
theorem keeps_own {W W' : World} {ds : List Dat} {vs : List Value} {fp : List Nat} (t : Touch fp W W') (h : Ow W ds vs fp) : KeepsOthers W W' := keeps_touch t fun p hp _ => h.cellsAt p hp
/-- A built-in's step, made inside a fence. -/
theorem wpIn_of_append {F : Fence} {n : Nat} {P : Program} {op : Oper} {a : Act} {Q : Exit → Act → World → Prop} {K : Act → World → Prop} {w : World} (s x : Operand) (t : TypeId)
    (hop : op.op = .call { callee := .builtin .append, args := #[s, x], argTypes := #[t, t] }) (h : Oper.wp P op a w K Q) : Oper.wpIn F n P op a w K Q := by
  unfold Oper.wpIn
  refine ⟨by simp [Oper.about, hop, resolve, Target.leads, Sem.run_pure], ?_⟩
  rw [Oper.semAt_plain F _ _ (by rw [hop]; intro c hc'; cases hc')]
  unfold Oper.wp at h
  revert h
  simp only [execOp, hop, resolve, invoke, builtin, Sem.run_bind, Sem.run_pure, Result.andThen_ok, List.map_toArray, List.map_cons, List.map_nil]
  intro h
  generalize Sem.run P (Builtin.append_ #[t, t] op.type #[a.eval s, a.eval x]) w = r at *
  cases r with
  | ok v w2 => exact h
  | halt x w2 => cases x <;> exact h
section
variable {α : Type} {f : α → List Dat} {e : TypeId} {k : Nat} {w : World} {l : List α} {fp : List Nat}
theorem wpListIn_append_elem {F : Fence} {m : Nat} {P : Program} {t : TypeId} {z : Value} {bytes : Nat} {A : Option Addr} {n c hb : Nat} {es : List Value} {f2 : List Nat} {y : α} {ops : Array Oper} {rest : List Oper} {op : Oper} {a : Act} {Q : Exit → Act → World → Prop}
    (hgd : op.guard = none) (s x : Operand) (hop : op.op = .call { callee := .builtin .append, args := #[s, x], argTypes := #[t, t] }) (ht : P.underlying t = some (.slice e))
    (hinfo : (P.info? e).map (fun i => (i.zero, i.size, i.bytes)) = some (some z, k, bytes)) (hzs : z.cells.size = k) (k0 : 0 < k) (hk : ∀ x, (f x).length = k)
    (hse : a.eval s = .slice A n c) (h : Ow w [Go.Proofs.Ytlhmolomefbklaa.lst e k f l] [.slice A n c] fp) (hn : fp.Nodup) (hx : a.eval x = .slice (some ⟨hb, 0, none⟩) 1 1)
    (hcell : ∀ i, i < k → w.cell? ⟨hb, i, none⟩ = es[i]?) (ho : Ow w (f y) es f2) (hn2 : f2.Nodup) (hd : ∀ p ∈ f2, p ∉ fp) (hl : n ≤ 1048577) (hby : bytes ≤ 1048576)
    (hK : ∀ A3 c3 w3 fp3, Ow w3 [Go.Proofs.Ytlhmolomefbklaa.lst e k f (l ++ [y])] [.slice A3 (n + 1) c3] fp3 → fp3.Nodup → (∀ p ∈ fp3, p ∈ fp ∨ p ∈ f2 ∨ p = w.heap.size) → Touch fp w w3 → wpListIn F m P ops Q rest (a.put op.dst (.slice A3 (n + 1) c3)) w3) :
    wpListIn F m P ops Q (op :: rest) a w :=
  wpListIn_plain hgd fun _ hK' => wpIn_of_append s x t hop (wp_append_elem s x hop ht hinfo hzs k0 hk hse h hn hx hcell ho hn2 hd hl hby fun A3 c3 w3 fp3 a1 a2 a3 a4 => hK' _ _ (hK A3 c3 w3 fp3 a1 a2 a3 a4))
end
/-- What the caller's pieces say abides the law's book-keeping. -/
theorem ownFrom_sep {β γ : Type} {B base : Nat} {w₀ : World} (its : β → γ → List Item) (G : β → γ → Prop) (hb : base ≤ w₀.heap.size) (hB : base ≤ B) : OwnFrom B (fun (s : β) W => ∃ g : γ, G s g ∧ Sep W base (its s g) ∧ Below base w₀ W) :=
  fun _ _ _ _ hs hg hr => by
    obtain ⟨g, h1, h2, h3⟩ := hs
    exact ⟨g, h1, h2.turned hg fun r e => (hr r e).2, h3.grown hg (Nat.le_trans hb h3.size) fun k e => Nat.le_trans hB (hr k e).1⟩

end Go.Proofs.Ytlhmolomefbklaa

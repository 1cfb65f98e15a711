/-
  Letters told of node by node: the law's own count of them.
-/
import Derived.Test.YtdcdcccdihhhcaaNetL0
import Derived.Test.YtdcdcccdihhhcaaNetC7
namespace Go.Proofs.Ytdcdcccdihhhcaa
set_option maxRecDepth 100000
open Go.RowKit

theorem rdIx {w : World} {B : Nat} {xs : List Int} {A : Option Addr} {n c : Nat} (h : Rd w B (rowCells xs) [.slice A n c]) : IRow w B A n xs ∧ n ≤ c ∧ c ≤ maxLen := by
  obtain ⟨_, _, _, e, hi, h1, h2⟩ := h.irow
  injection e with e1 e2 e3
  subst e1 e2 e3
  exact ⟨hi, h1, h2⟩
def ixTo (l : List MsgM) (node : Int) : List Nat := (List.range l.length).filter fun i => decide ((l.getD i msg0).dest = node)
theorem letN_eq (l : List MsgM) (node : Int) : letN l node l.length = (ixTo l node).map fun (i : Nat) => (i : Int) := rfl
theorem ixTo_mem {l : List MsgM} {node : Int} {x : Nat} : x ∈ ixTo l node ↔ x < l.length ∧ (l.getD x msg0).dest = node := by
  unfold ixTo
  rw [List.mem_filter, List.mem_range, decide_eq_true_eq]
theorem ixTo_len (l : List MsgM) (node : Int) : (ixTo l node).length ≤ l.length := by
  have h := List.length_filter_le (fun i => decide ((l.getD i msg0).dest = node)) (List.range l.length)
  rw [List.length_range] at h
  exact h
theorem ixTo_sorted (l : List MsgM) (node : Int) : (ixTo l node).Pairwise (· < ·) := List.pairwise_lt_range.filter _
theorem letters_mk {l : List MsgM} (h : netOk ⟨l, []⟩ = true) (node : Int) : lettersM ⟨l, []⟩ node = (ixTo l node).map fun (i : Nat) => (i : Int) := by
  unfold lettersM
  rw [if_pos h]
  exact letN_eq l node
theorem ixTo_lt {l : List MsgM} {node : Int} {i j : Nat} (hj : j < (ixTo l node).length) (hi : i < j) : (ixTo l node)[i]'(by omega) < (ixTo l node)[j] :=
  List.pairwise_iff_getElem.1 (ixTo_sorted l node) i j (by omega) hj hi
/-- The count ms, when all letters to nodes before 'node' and those of S have been counted. -/
def MetOk (l : List MsgM) (ms : List Int) (node : Int) (S : List Nat) : Prop :=
  ms.length = l.length ∧ ∀ q, q < l.length → ms.getD q 0 = if (l.getD q msg0).dest < node ∨ q ∈ S then 1 else 0
section
variable {l : List MsgM} {ms : List Int} {node : Int}
theorem dest_in (h : l.all msgOk = true) {q : Nat} (hq : q < l.length) : 0 ≤ (l.getD q msg0).dest ∧ (l.getD q msg0).dest ≤ 5 := by
  have e : l.getD q msg0 = l[q] := by simp [List.getD, List.getElem?_eq_getElem hq]
  rw [e]
  have h1 := List.all_eq_true.1 h _ (List.getElem_mem hq)
  unfold msgOk twoB at h1
  simp only [Bool.and_eq_true] at h1
  exact (nodeB_iff _).1 h1.1.1.2
theorem met_zero (h : l.all msgOk = true) : MetOk l (List.replicate l.length 0) 0 [] := by
  refine ⟨by simp, fun q hq => ?_⟩
  have := (dest_in h hq).1
  rw [if_neg (by rintro (h | h); omega; cases h), List.getD_eq_getElem?_getD, List.getElem?_replicate, if_pos hq]
  rfl
theorem met_next (h : MetOk l ms node (ixTo l node)) : MetOk l ms (node + 1) [] := by
  refine ⟨h.1, fun q hq => ?_⟩
  rw [h.2 q hq]
  by_cases g : (l.getD q msg0).dest < node ∨ q ∈ ixTo l node
  · rw [if_pos g, if_pos]
    left
    rcases g with g | g
    · omega
    · have := (ixTo_mem.1 g).2
      omega
  · rw [if_neg g, if_neg]
    rintro (g' | g')
    · refine g ?_
      rcases Int.lt_or_eq_of_le (show (l.getD q msg0).dest ≤ node by omega) with e | e
      · exact .inl e
      · exact .inr (ixTo_mem.2 ⟨hq, e⟩)
    · cases g'
theorem met_at {i : Nat} (h : MetOk l ms node ((ixTo l node).take i)) (hi : i < (ixTo l node).length) : ms.getD (ixTo l node)[i] 0 = 0 := by
  have hx := ixTo_mem.1 (List.getElem_mem hi)
  rw [h.2 _ hx.1, if_neg]
  rintro (g | g)
  · have := hx.2
    omega
  · obtain ⟨k, hk, e⟩ := List.getElem_of_mem g
    rw [List.length_take] at hk
    rw [List.getElem_take] at e
    have := ixTo_lt (l := l) (node := node) hi (show k < i by omega)
    omega
theorem getD_seti (bs : List Int) (p q : Nat) (v : Int) (hp : p < bs.length) : (bs.set p v).getD q 0 = if q = p then v else bs.getD q 0 := by
  rw [List.getD_eq_getElem?_getD, List.getD_eq_getElem?_getD, List.getElem?_set]
  by_cases h : p = q
  · subst h
    rw [if_pos rfl, if_pos rfl, if_pos hp]
    rfl
  · rw [if_neg h, if_neg (fun e => h e.symm)]
theorem met_step {i : Nat} (h : MetOk l ms node ((ixTo l node).take i)) (hi : i < (ixTo l node).length) : MetOk l (ms.set (ixTo l node)[i] 1) node ((ixTo l node).take (i + 1)) := by
  have hx := ixTo_mem.1 (List.getElem_mem hi)
  refine ⟨by rw [List.length_set]; exact h.1, fun q hq => ?_⟩
  rw [getD_seti _ _ _ _ (by rw [h.1]; exact hx.1), List.take_succ_eq_append_getElem hi]
  by_cases e : q = (ixTo l node)[i]
  · rw [if_pos e, if_pos (.inr (by rw [e]; exact List.mem_append_right _ (List.mem_singleton.2 rfl)))]
  · rw [if_neg e, h.2 q hq]
    have g : ((l.getD q msg0).dest < node ∨ q ∈ (ixTo l node).take i) ↔ ((l.getD q msg0).dest < node ∨ q ∈ (ixTo l node).take i ++ [(ixTo l node)[i]]) := by
      rw [List.mem_append, List.mem_singleton]
      exact ⟨fun g => g.elim .inl (fun g => .inr (.inl g)), fun g => g.elim .inl (fun g => g.elim .inr (fun g => absurd g e))⟩
    by_cases g' : (l.getD q msg0).dest < node ∨ q ∈ (ixTo l node).take i
    · rw [if_pos g', if_pos (g.1 g')]
    · rw [if_neg g', if_neg (fun x => g' (g.2 x))]
theorem met_all (h : MetOk l ms 6 []) (ho : l.all msgOk = true) {q : Nat} (hq : q < l.length) : ms.getD q 0 = 1 := by
  have := (dest_in ho hq).2
  rw [h.2 q hq, if_pos (.inl (by omega))]
theorem ixTo_six (ho : l.all msgOk = true) : ixTo l 6 = [] := by
  rw [List.eq_nil_iff_forall_not_mem]
  intro x hx
  have h1 := ixTo_mem.1 hx
  have := (dest_in ho h1.1).2
  omega
end
/-- The count's cells. -/
def iA (ms : List Int) : Array Value := (ms.map (Value.int .i64)).toArray
theorem iA_set (ms : List Int) (q : Nat) (v : Int) : (iA ms).setIfInBounds q (.int .i64 v) = iA (ms.set q v) := by
  unfold iA
  rw [List.map_set, List.setIfInBounds_toArray]
theorem iA_at {ms : List Int} {q : Nat} (h : q < ms.length) : (iA ms)[q]? = some (.int .i64 (ms.getD q 0)) := by
  unfold iA
  rw [List.getElem?_toArray, List.getElem?_map, List.getElem?_eq_getElem h, List.getD_eq_getElem?_getD, List.getElem?_eq_getElem h]
  rfl
theorem sent_more {l : List MsgM} {m : MsgM} (h : l.all msgOk = true) (hl : l.length ≤ 20) (hm : msgOk m = true) : sentM ⟨l, []⟩ m = (⟨l ++ [m], []⟩, true) := by
  unfold sentM
  rw [if_pos (netOk_mk h (by omega)), if_pos hm, if_neg (show ¬ l.length = 60 by omega)]
  rfl
theorem all_snoc {l : List MsgM} {m : MsgM} (h : l.all msgOk = true) (hm : msgOk m = true) : (l ++ [m]).all msgOk = true := by
  rw [List.all_append, h]
  simp [hm]
theorem made_zeros (n : Nat) : madeCells #[Value.int .i64 0] (n * 1) = iA (List.replicate n 0) := by
  apply Array.toList_inj.1
  rw [toList_made _ 1 n rfl (by decide)]
  unfold iA
  induction n with
  | zero => rfl
  | succ n ih => simp only [List.replicate_succ, List.flatten_cons, List.map_cons] at *; rw [ih]; rfl
end Go.Proofs.Ytdcdcccdihhhcaa

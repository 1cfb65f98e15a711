/-
  Chapter 7: a literal row handed back; a struct's store by its block (by program, wip/gen/genentq.py).
-/
import Derived.Test.YthjjdelpdiipdaaEntM
import Derived.RegionTactic
import Derived.BigQuiet
import Derived.Deep.MidRow
namespace Go.Proofs.Ythjjdelpdiipdaa
set_option maxRecDepth 100000
open Go.RowKit

theorem has_lit (w : World) (xs : List Int) (h : xs.length ≤ 1000) : Has (w.alloc (.cells (ivals xs).toArray 2)) w.heap.size (rowCells xs) [.slice (some ⟨w.heap.size, 0, none⟩) xs.length xs.length] := by
  have o : Own (w.alloc (.cells (ivals xs).toArray 2)) w.heap.size (some ⟨w.heap.size, 0, none⟩) xs.length xs.length xs := by
    have := World.ownsRow_lit (base := w.heap.size) (e := 2) (size := 1) w (ivals xs).toArray xs.length (Nat.le_refl _) (by unfold maxLen; omega) (by simp [ivals])
    exact this
  exact o.has
theorem int_flat : ∀ x : Int, (fun y : Int => [Dat.int y]) x = ([x] : List Int).flatMap fun y => [Dat.int y] := fun _ => rfl
theorem Sep.row {w : World} {base : Nat} {is : List Item} (h : Sep w base is) (n : Nat) {p : Nat} {cs : Array Value} {t : TypeId} (hn : is[n]? = some (.blk p cs t)) (cells : Array Value) : Sep (w.setRow p cells) base (is.set n (.blk p cells t)) := by
  have hlt : n < is.length := by
    rcases Nat.lt_or_ge n is.length with h1 | h1
    · exact h1
    · rw [List.getElem?_eq_none h1] at hn; cases hn
  have hset : foots (is.set n (.blk p cells t)) = foots is := by
    unfold foots
    have hi : is[n] = .blk p cs t := by rw [List.getElem?_eq_getElem hlt] at hn; injection hn
    rw [List.set_eq_take_append_cons_drop, if_pos hlt]
    have e : is = is.take n ++ is[n] :: is.drop (n + 1) := by rw [List.getElem_cons_drop, List.take_append_drop]
    conv => rhs; rw [e]
    rw [List.flatMap_append, List.flatMap_append, List.flatMap_cons, List.flatMap_cons, hi]
    rfl
  have hb := h.at_ n hn
  refine ⟨fun m i hi => ?_, by rw [hset]; exact h.nodup, by rw [hset]; exact h.ge⟩
  by_cases e : n = m
  · subst e
    rw [List.getElem?_set_self hlt] at hi
    injection hi with hi
    subst hi
    exact setRow_heap w p cs cells t (0, 0) hb
  · rw [List.getElem?_set_ne e] at hi
    have hh := h.holds m i hi
    have hnd := h.nodup
    refine Item.same hh (fun q hq => setRow_other w p q cells (fun hqp => ?_))
    subst hqp
    rw [foots_split is hn] at hnd
    have hm := foot_mem hi hq
    rcases Nat.lt_or_gt_of_ne e with h1 | h1
    · have : q ∈ foots (is.drop (n + 1)) := foot_mem (n := m - (n + 1)) (by rw [List.getElem?_drop]; rw [show n + 1 + (m - (n + 1)) = m by omega]; exact hi) hq
      rw [List.nodup_append, List.nodup_append] at hnd
      exact hnd.2.1.2.2 q (by simp [Item.foot]) q this rfl
    · have : q ∈ foots (is.take n) := foot_mem (n := m) (by rw [List.getElem?_take, if_pos h1]; exact hi) hq
      rw [List.nodup_append] at hnd
      exact hnd.2.2 q this q (by simp [Item.foot]) rfl
theorem touch_setRow (w : World) (p : Nat) (cells : Array Value) : Touch [p] w (w.setRow p cells) :=
  ⟨rfl, rfl, rfl, by simp [World.setRow], fun k _ hk => setRow_other w p k cells (fun e => hk (by simp [e]))⟩

theorem IRow.drop4 {w : World} {B b off : Nat} {d : List Int} (h : IRow w B (some ⟨b, off, none⟩) 9 d) : IRow w B (some ⟨b, off + 4, none⟩) 5 (d.drop 4) := by
  refine ⟨by rw [List.length_drop, h.1], fun _ => ?_⟩
  obtain ⟨b', off', e, hb, hc⟩ := h.2 (by omega)
  injection e with e
  injection e with e1 e2
  subst e1 e2
  refine ⟨b, off + 4, rfl, hb, fun j hj => ?_⟩
  have := hc (4 + j) (by omega)
  rw [Nat.add_assoc, this]
  simp [List.getD]

end Go.Proofs.Ythjjdelpdiipdaa

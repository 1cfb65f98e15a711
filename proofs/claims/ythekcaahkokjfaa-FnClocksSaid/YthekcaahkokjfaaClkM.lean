/-
  The law of clocks: what the four calls answer on six small clocks, and the greatest and the smallest of them.
-/
import Derived.Test.YthekcaahkokjfaaTimC2
import Derived.Test.YthekcaahkokjfaaTimC3
import Derived.Test.YthekcaahkokjfaaLike
namespace Go.Proofs.Ythekcaahkokjfaa
set_option maxRecDepth 100000
open Go.RowKit

theorem clocks_small {l : List Int} (h : l.length = 6) (h2 : ∀ x ∈ l, 0 ≤ x ∧ x ≤ 1000) : clocksB l = true :=
  clocksB_yes h (List.all_eq_true.2 fun x hx => (timeB_iff x).2 (by have := h2 x hx; omega))
theorem small_set {l : List Int} {i : Nat} {v : Int} (h2 : ∀ x ∈ l, 0 ≤ x ∧ x ≤ 1000) (hv : 0 ≤ v ∧ v ≤ 1000) : ∀ x ∈ l.set i v, 0 ≤ x ∧ x ≤ 1000 := fun x hx => by
  rcases List.mem_or_eq_of_mem_set hx with h | h
  · exact h2 x h
  · rw [h]; exact hv
theorem ticked_small {l : List Int} {i : Nat} {v n : Int} (h : l.length = 6) (h2 : ∀ x ∈ l, 0 ≤ x ∧ x ≤ 1000) (hi : i < 6) (hv : l.getD i 0 = v) (hn : 0 ≤ n ∧ n ≤ 1000) : tickedM l (i : Int) n = (l.set i (v + n), true) := by
  have hv2 := h2 _ (List.getElem_mem (show i < l.length by omega))
  have hv3 : l.getD i 0 = l[i] := by simp [List.getD, List.getElem?_eq_getElem (show i < l.length by omega)]
  have hnt : nth l (i : Int) = v := by rw [nth_at (show i < l.length by omega), ← hv3, hv]
  unfold tickedM
  rw [if_pos (clocks_small h h2), if_pos, hnt, Int.toNat_natCast]
  rw [hnt, (nodeB_iff _).2 (by omega), (timeB_iff _).2 (by omega), decide_eq_true (by omega)]
  rfl
theorem jumped_small {l : List Int} {i : Nat} {n : Int} (h : l.length = 6) (h2 : ∀ x ∈ l, 0 ≤ x ∧ x ≤ 1000) (hi : i < 6) (hn : 0 ≤ n ∧ n ≤ 1000) : jumpedM l (i : Int) n = (l.set i n, true) := by
  unfold jumpedM
  rw [if_pos (clocks_small h h2), if_pos, Int.toNat_natCast]
  rw [(nodeB_iff _).2 (by omega), (timeB_iff _).2 (by omega)]
  rfl
theorem tick_law (A : Option Addr) (n c i : Nat) (l : List Int) (v a : Int) (w : World) (hr : Rd w w.heap.size (rowCells l) [.slice A n c]) (h : l.length = 6) (h2 : ∀ x ∈ l, 0 ≤ x ∧ x ≤ 1000) (hi : i < 6) (hv : l.getD i 0 = v) (hn : 0 ≤ a ∧ a ≤ 1000) :
    Calls Try.prog 19 #[.slice A n c, .int .i64 i, .int .i64 a] w fun e w' => ∃ (A : Option Addr) (n c : Nat), e = .returned (.tuple #[.slice A n c, .bool true]) ∧ Has w' w.heap.size (rowCells (l.set i (v + a))) [.slice A n c] ∧ Below w.heap.size w w' := by
  have := iTicked_at A n c l i a w hr (by omega)
  rw [ticked_small h h2 hi hv hn] at this
  exact this
theorem jump_law (A : Option Addr) (n c i : Nat) (l : List Int) (a : Int) (w : World) (hr : Rd w w.heap.size (rowCells l) [.slice A n c]) (h : l.length = 6) (h2 : ∀ x ∈ l, 0 ≤ x ∧ x ≤ 1000) (hi : i < 6) (hn : 0 ≤ a ∧ a ≤ 1000) :
    Calls Try.prog 20 #[.slice A n c, .int .i64 i, .int .i64 a] w fun e w' => ∃ (A : Option Addr) (n c : Nat), e = .returned (.tuple #[.slice A n c, .bool true]) ∧ Has w' w.heap.size (rowCells (l.set i a)) [.slice A n c] ∧ Below w.heap.size w w' := by
  have := iJumped_at A n c l i a w hr (by omega)
  rw [jumped_small h h2 hi hn] at this
  exact this
def maxZ (l : List Int) (j : Nat) : Int := (l.take j).foldl max 0
theorem maxZ_step {l : List Int} {j : Nat} (hj : j < l.length) : maxZ l (j + 1) = max (maxZ l j) l[j] := by
  unfold maxZ
  rw [List.take_succ_eq_append_getElem hj, List.foldl_append]
  rfl
theorem maxZ_max {l : List Int} (h0 : ∀ x ∈ l, 0 ≤ x) : ∀ j, j < l.length → maxZ l (j + 1) = maxN l (j + 1) := by
  intro j
  induction j with
  | zero =>
    intro h
    rw [maxZ_step h, maxN_one h]
    have := h0 _ (List.getElem_mem h)
    show max (0 : Int) l[0] = l[0]
    omega
  | succ j ih =>
    intro h
    rw [maxZ_step h, maxN_step h, ih (by omega)]
theorem maxZ_range {l : List Int} (h2 : ∀ x ∈ l, 0 ≤ x ∧ x ≤ 1000) : ∀ j, j ≤ l.length → 0 ≤ maxZ l j ∧ maxZ l j ≤ 1000 := by
  intro j
  induction j with
  | zero => intro _; exact ⟨Int.le_refl _, (by decide : (0 : Int) ≤ 1000)⟩
  | succ j ih =>
    intro h
    have h1 := ih (by omega)
    have h3 := h2 _ (List.getElem_mem (show j < l.length by omega))
    rw [maxZ_step (by omega)]
    omega
theorem latest_small {l : List Int} (h : l.length = 6) (h2 : ∀ x ∈ l, 0 ≤ x ∧ x ≤ 1000) : latestM l = maxZ l 6 := by
  unfold latestM
  rw [if_pos (clocks_small h h2), h, ← maxZ_max (fun x hx => (h2 x hx).1) 5 (by omega)]
theorem apart_small {l : List Int} (h : l.length = 6) (h2 : ∀ x ∈ l, 0 ≤ x ∧ x ≤ 1000) : apartM l = maxZ l 6 - minN l 6 := by
  unfold apartM
  rw [if_pos (clocks_small h h2), h, ← maxZ_max (fun x hx => (h2 x hx).1) 5 (by omega)]
theorem minN_small {l : List Int} (h : l.length = 6) (h2 : ∀ x ∈ l, 0 ≤ x ∧ x ≤ 1000) : ∀ j, j ≤ 6 → 0 ≤ minN l j ∧ minN l j ≤ 1000 := by
  intro j
  induction j with
  | zero =>
    intro _
    have h3 := h2 _ (List.getElem_mem (show 0 < l.length by omega))
    unfold minN
    simpa [List.getD, List.getElem?_eq_getElem (show 0 < l.length by omega)] using h3
  | succ j ih =>
    intro hj
    have h1 := ih (by omega)
    have h3 := h2 _ (List.getElem_mem (show j < l.length by omega))
    rw [minN_step (by omega)]
    omega
theorem minN_zero (l : List Int) : minN l 0 = l.getD 0 0 := rfl

end Go.Proofs.Ythekcaahkokjfaa

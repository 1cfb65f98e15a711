/-
  Walks of the laws' own draws, chapter 6: a piece made longer; the laws' bound.
-/
import Derived.Test.YtepnghjmpbfmcaaDrL
import Derived.RegionTactic
namespace Go.Proofs.Ytepnghjmpbfmcaa
set_option maxRecDepth 100000
open Go.RowKit

section
variable {w W W' : World} {B p : Nat} {is is' : List Item}
theorem LCur.belowB (h : LCur W B p) {q : Nat} (b : Below q W W') (hp : p < q) : LCur W' B p := by
  obtain ⟨A, n, c, i, x, hh, hbr, hb, hn, hi⟩ := h
  exact ⟨A, n, c, i, x, (b.block p hp).trans hh, hbr.below (b.mono (by omega)), hb, hn, hi⟩
/-- Own pieces have been written over. -/
theorem DrL.move (h : DrL w W B p is) (b : Below w.heap.size W W') (S : Sep W' w.heap.size is') : DrL w W' B p is' :=
  ⟨S, h.cur.belowB b h.lt, grownB h.grown b (Nat.le_refl _), h.lt⟩
theorem DrL.drewN (h : DrL w W B p is) : DrL w W.drew B p is := h.drew
end
theorem lbig_any (A : Option Addr) (n c : Nat) (w : World) :
    Calls Try.prog 15 #[.slice A n c] w fun e w' => e = .returned (.bool (decide (4096 < n))) ∧ w = w' := by
  go_enter Try.func15, Try.ntmps15
  go_wp2
  go_ret
  exact ⟨by simp; omega, rfl⟩

/-- Numbers drawn and put behind: one more element of an own row. -/
theorem DrL.grew {w W W' : World} {B p : Nat} {is : List Item} {d1 d2 ds : List Dat} {v1 v2 vs : List Value} {fp f2 fp3 : List Nat} (h : DrL w W B p (.own d1 v1 fp :: .own d2 v2 f2 :: is)) (t : Touch fp W W') (o : Ow W' ds vs fp3) (n : fp3.Nodup)
    (s : ∀ p ∈ fp3, p ∈ fp ∨ p ∈ f2 ∨ p = W.heap.size) : DrL w W' B p (.own ds vs fp3 :: is) :=
  h.move (h.sep.below 0 rfl t h.grown.size) (h.sep.merge t o n s h.grown.size)

/-- The count's cells. -/
def iA (ms : List Int) : Array Value := (ms.map (Value.int .i64)).toArray
theorem iA_set (ms : List Int) (q : Nat) (v : Int) : (iA ms).setIfInBounds q (.int .i64 v) = iA (ms.set q v) := by
  unfold iA
  rw [List.map_set, List.setIfInBounds_toArray]
theorem iA_at {ms : List Int} {q : Nat} (h : q < ms.length) : (iA ms)[q]? = some (.int .i64 (ms.getD q 0)) := by
  unfold iA
  rw [List.getElem?_toArray, List.getElem?_map, List.getElem?_eq_getElem h, List.getD_eq_getElem?_getD, List.getElem?_eq_getElem h]
  rfl
theorem made_zeros (n : Nat) : madeCells #[Value.int .i64 0] (n * 1) = iA (List.replicate n 0) := by
  apply Array.toList_inj.1
  rw [toList_made _ 1 n rfl (by decide)]
  unfold iA
  induction n with
  | zero => rfl
  | succ n ih => simp only [List.replicate_succ, List.flatten_cons, List.map_cons] at *; rw [ih]; rfl

end Go.Proofs.Ytepnghjmpbfmcaa

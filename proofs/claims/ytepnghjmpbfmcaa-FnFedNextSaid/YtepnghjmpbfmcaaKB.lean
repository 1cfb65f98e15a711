/-
  SumOf, of the program and of its model: the checksum of a row, or -1 where the numbers are no row.
  The two copies of a row into new memory.
  WithSum, of the program and of its model: a row of at most 47 numbers followed by its checksum, in new memory; else the empty slice.
  Unsummed, of the program and of its model: the row without its checksum, in new memory, and true; else the empty slice and false.
  Plain facts on checksums: the checksum is taken off again, and a row with one changed number has another one.
-/
import Derived.Test.YtepnghjmpbfmcaaKA
import Derived.Test.YtepnghjmpbfmcaaCopyS
namespace Go.Proofs.Ytepnghjmpbfmcaa
set_option maxRecDepth 100000
open Go.RowKit

def sumStep (s x : Int) : Int := (131 * s + x + 1) % 999999937
def sumTo (xs : List Int) (k : Nat) : Int := (xs.take k).foldl sumStep 7
def sumOf (xs : List Int) : Int := if rowOk xs = true then sumTo xs xs.length else -1

theorem sumTo_succ {xs : List Int} {k : Nat} (h : k < xs.length) : sumTo xs (k + 1) = sumStep (sumTo xs k) (xs.getD k 0) := by
  unfold sumTo
  rw [List.take_succ_eq_append_getElem h, List.foldl_append]
  simp [List.getD, List.getElem?_eq_getElem h]
theorem sumStep_bd (s x : Int) : 0 ≤ sumStep s x ∧ sumStep s x < 999999937 := by unfold sumStep; omega
theorem sumTo_bd (xs : List Int) (k : Nat) : 0 ≤ sumTo xs k ∧ sumTo xs k < 999999937 := by
  unfold sumTo
  rcases List.eq_nil_or_concat (xs.take k) with h | ⟨l, x, h⟩
  · rw [h]; decide
  · rw [h, List.concat_eq_append, List.foldl_append]; exact sumStep_bd _ _
theorem rowOk_num {xs : List Int} (h : rowOk xs = true) (k : Nat) : 0 ≤ xs.getD k 0 ∧ xs.getD k 0 ≤ 1000000000 := by
  by_cases hk : k < xs.length
  · simp only [rowOk, Bool.and_eq_true, decide_eq_true_eq, List.all_eq_true] at h
    have := h.2 (xs.getD k 0) (by simp [List.getD, List.getElem?_eq_getElem hk])
    simpa [numOk] using this
  · simp [List.getD, List.getElem?_eq_none (show xs.length ≤ k by omega)]
theorem rowOk_lenS {xs : List Int} (h : rowOk xs = true) : xs.length ≤ 48 := by
  simp only [rowOk, Bool.and_eq_true, decide_eq_true_eq] at h
  exact h.1

end Go.Proofs.Ytepnghjmpbfmcaa


namespace Go.Proofs.Ytepnghjmpbfmcaa
set_option maxRecDepth 100000
open Go.RowKit

def withSum (xs : List Int) : List Int := if rowOk xs = true ∧ xs.length < 48 then xs ++ [sumOf xs] else []

theorem withSum_yes {xs : List Int} (h : rowOk xs = true) (hl : xs.length < 48) : withSum xs = xs ++ [sumOf xs] := by simp [withSum, h, hl]
theorem withSum_no {xs : List Int} (h : rowOk xs = false) : withSum xs = [] := by simp [withSum, h]
theorem withSum_long {xs : List Int} (hl : 48 ≤ xs.length) : withSum xs = [] := by
  unfold withSum
  rw [if_neg (by omega)]

theorem own_nil (w : World) (base : Nat) : Own w base none 0 0 [] := World.ownsRow_nil _ _ _ _

end Go.Proofs.Ytepnghjmpbfmcaa

namespace Go.Proofs.Ytepnghjmpbfmcaa
set_option maxRecDepth 100000
open Go.RowKit

def lastOk (xs : List Int) : Bool := decide (sumOf (xs.take (xs.length - 1)) = xs.getD (xs.length - 1) 0)
def unsummed (xs : List Int) : List Int × Bool :=
  if rowOk xs = true ∧ 0 < xs.length ∧ lastOk xs = true then (xs.take (xs.length - 1), true) else ([], false)

theorem unsummed_yes {xs : List Int} {m : Nat} (h : rowOk xs = true) (hl : xs.length = m + 1) (hs : sumOf (xs.take m) = xs.getD m 0) : unsummed xs = (xs.take m, true) := by
  have e : xs.length - 1 = m := by omega
  unfold unsummed lastOk
  rw [e, if_pos ⟨h, by omega, by simpa using hs⟩]
theorem unsummed_no {xs : List Int} (h : rowOk xs = false) : unsummed xs = ([], false) := by simp [unsummed, h]
theorem unsummed_nil {xs : List Int} (h : xs.length = 0) : unsummed xs = ([], false) := by
  unfold unsummed
  rw [if_neg (by omega)]
theorem unsummed_bad {xs : List Int} {m : Nat} (hl : xs.length = m + 1) (hs : sumOf (xs.take m) ≠ xs.getD m 0) : unsummed xs = ([], false) := by
  have e : xs.length - 1 = m := by omega
  unfold unsummed lastOk
  rw [e, if_neg]
  rintro ⟨_, _, h⟩
  exact hs (by simpa using h)

theorem IRow.take {w : World} {B : Nat} {A : Option Addr} {n k : Nat} {xs : List Int} (h : IRow w B A n xs) (hk : k ≤ n) : IRow w B A k (xs.take k) := by
  have hl := h.1
  refine ⟨by simp; omega, fun h0 => ?_⟩
  obtain ⟨b, off, rfl, hb, hc⟩ := h.2 (by omega)
  refine ⟨b, off, rfl, hb, fun j hj => ?_⟩
  rw [hc j (by omega)]
  simp [List.getD, hj]

/-- A new slice of the numbers and a bool are handed back; what was there is as it was. -/
def MadeRowB (w : World) (r : List Int × Bool) (e : Ending) (w' : World) : Prop :=
  ∃ A n c, e = .returned (.tuple #[.slice A n c, .bool r.2]) ∧ Own w' w.heap.size A n c r.1 ∧ Below w.heap.size w w'

theorem quiet_id {f : FuncId} {args : Array Value} {w : World} {n : Nat} {v : Value} (h : Calls Try.prog f args (w.drewN n) fun e w' => e = .returned v ∧ w.drewN n = w') :
    Calls Try.prog f args (w.drewN n) fun e w'' => e = .returned v ∧ ∃ m, w'' = w.drewN m := h.mono fun _ _ ⟨he, hm⟩ => ⟨he, n, hm.symm⟩

end Go.Proofs.Ytepnghjmpbfmcaa

namespace Go.Proofs.Ytepnghjmpbfmcaa
set_option maxRecDepth 100000

theorem sumStep_inj {s t x : Int} (s0 : 0 ≤ s) (s1 : s < 999999937) (t0 : 0 ≤ t) (t1 : t < 999999937) (h : sumStep s x = sumStep t x) : s = t := by
  unfold sumStep at h
  omega
theorem sumStep_ne {s x y : Int} (h0 : x ≠ y) (h1 : x - y ≤ 999999) (h2 : y - x ≤ 999999) : sumStep s x ≠ sumStep s y := by
  unfold sumStep
  omega
theorem fold_inj (l : List Int) : ∀ {s t : Int}, 0 ≤ s → s < 999999937 → 0 ≤ t → t < 999999937 → l.foldl sumStep s = l.foldl sumStep t → s = t := by
  induction l with
  | nil => intro s t _ _ _ _ h; exact h
  | cons x l ih =>
    intro s t s0 s1 t0 t1 h
    have a := sumStep_bd s x
    have b := sumStep_bd t x
    exact sumStep_inj s0 s1 t0 t1 (ih a.1 a.2 b.1 b.2 h)

theorem sumTo_set_ne {xs : List Int} {i : Nat} (hi : i < xs.length) {y : Int} (h0 : xs.getD i 0 ≠ y) (h1 : xs.getD i 0 - y ≤ 999999) (h2 : y - xs.getD i 0 ≤ 999999) :
    sumTo (xs.set i y) (xs.set i y).length ≠ sumTo xs xs.length := by
  intro h
  have e1 : xs = xs.take i ++ xs.getD i 0 :: xs.drop (i + 1) := by
    have : xs.getD i 0 = xs[i] := by simp [List.getD, List.getElem?_eq_getElem hi]
    rw [this, ← List.drop_eq_getElem_cons hi, List.take_append_drop]
  have e2 : xs.set i y = xs.take i ++ y :: xs.drop (i + 1) := by
    rw [List.set_eq_take_append_cons_drop, if_pos hi]
  unfold sumTo at h
  rw [List.take_length, List.take_length, e2] at h
  rw [show xs.foldl sumStep 7 = (xs.take i ++ xs.getD i 0 :: xs.drop (i + 1)).foldl sumStep 7 from congrArg (fun l => l.foldl sumStep 7) e1] at h
  rw [List.foldl_append, List.foldl_append, List.foldl_cons, List.foldl_cons] at h
  have a := sumStep_bd ((xs.take i).foldl sumStep 7) y
  have b := sumStep_bd ((xs.take i).foldl sumStep 7) (xs.getD i 0)
  exact sumStep_ne h0 h1 h2 (fold_inj _ a.1 a.2 b.1 b.2 h).symm

theorem rowOk_iffS {xs : List Int} : rowOk xs = true ↔ xs.length ≤ 48 ∧ ∀ x ∈ xs, 0 ≤ x ∧ x ≤ 1000000000 := by
  simp [rowOk, numOk]

theorem sumOf_bd {xs : List Int} (h : rowOk xs = true) : 0 ≤ sumOf xs ∧ sumOf xs ≤ 1000000000 := by
  have := sumTo_bd xs xs.length
  simp only [sumOf, h, if_true]
  omega

theorem rowOk_snoc {xs : List Int} (h : rowOk xs = true) (hl : xs.length < 48) {s : Int} (s0 : 0 ≤ s) (s1 : s ≤ 1000000000) : rowOk (xs ++ [s]) = true := by
  rw [rowOk_iffS] at h ⊢
  refine ⟨by simp; omega, fun x hx => ?_⟩
  rcases List.mem_append.1 hx with h1 | h1
  · exact h.2 x h1
  · simp at h1; subst h1; exact ⟨s0, s1⟩

/-- The checksum is taken off again. -/
theorem uns_with {xs : List Int} (h : rowOk xs = true) (hl : xs.length < 48) : unsummed (withSum xs) = (xs, true) := by
  have hb := sumOf_bd h
  rw [withSum_yes h hl]
  have := unsummed_yes (xs := xs ++ [sumOf xs]) (m := xs.length) (rowOk_snoc h hl hb.1 hb.2) (by simp) (by simp [List.getD])
  simpa using this

/-- A row with one changed number is rejected. -/
theorem uns_bent {xs : List Int} (h : rowOk xs = true) (hl : xs.length < 48) {i : Nat} (hi : i < (withSum xs).length) {y : Int}
    (h0 : (withSum xs).getD i 0 ≠ y) (h1 : (withSum xs).getD i 0 - y ≤ 999999) (h2 : y - (withSum xs).getD i 0 ≤ 999999) : (unsummed ((withSum xs).set i y)).2 = false := by
  have hb := sumOf_bd h
  rw [withSum_yes h hl] at hi h0 h1 h2 ⊢
  cases hr : rowOk ((xs ++ [sumOf xs]).set i y)
  · rw [unsummed_no hr]
  · have hlen : ((xs ++ [sumOf xs]).set i y).length = xs.length + 1 := by simp
    rw [unsummed_bad (m := xs.length) hlen]
    by_cases hlast : i < xs.length
    · rw [List.set_append_left _ _ hlast] at hr ⊢
      rw [List.take_left' (by simp)]
      have hg : (xs.set i y ++ [sumOf xs]).getD xs.length 0 = sumOf xs := by simp [List.getD]
      rw [hg]
      have hr2 : rowOk (xs.set i y) = true := by
        rw [rowOk_iffS] at hr ⊢
        exact ⟨by simp; omega, fun x hx => hr.2 x (List.mem_append_left _ hx)⟩
      have hgi : (xs ++ [sumOf xs]).getD i 0 = xs.getD i 0 := by simp [List.getD, List.getElem?_append_left hlast]
      rw [hgi] at h0 h1 h2
      simp only [sumOf, h, hr2, if_true]
      exact sumTo_set_ne hlast h0 h1 h2
    · have hi' : i = xs.length := by simp at hi; omega
      subst hi'
      rw [List.set_append_right _ _ (Nat.le_refl _), Nat.sub_self]
      have hg : (xs ++ [sumOf xs]).getD xs.length 0 = sumOf xs := by simp [List.getD]
      rw [hg] at h0
      have hg2 : (xs ++ [sumOf xs].set 0 y).getD xs.length 0 = y := by simp [List.getD]
      rw [hg2, List.take_left' rfl]
      exact h0

end Go.Proofs.Ytepnghjmpbfmcaa

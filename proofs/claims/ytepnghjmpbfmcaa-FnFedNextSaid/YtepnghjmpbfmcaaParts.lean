/-
  A slice's front and its back, as they read.
-/
import Derived.Test.YtepnghjmpbfmcaaCutE
namespace Go.Proofs.Ytepnghjmpbfmcaa
set_option maxRecDepth 100000
open Go.RowKit

/-! ### Parts of a slice -/
section
variable {α : Type} {w : World} {B : Nat} {e : TypeId} {k : Nat} {f : α → List Dat} {l : List α} {A A2 : Option Addr} {n c c' i : Nat}
theorem Rd.front (hk : ∀ x, (f x).length = k) (k0 : 0 < k) (h : Rd w B [Go.Proofs.Ytepnghjmpbfmcaa.lst e k f l] [.slice A n c]) (hi : i ≤ n) (hc : i ≤ c') (hm : c' ≤ maxLen) : Rd w B [Go.Proofs.Ytepnghjmpbfmcaa.lst e k f (l.take i)] [.slice A i c'] := by
  rcases Nat.eq_zero_or_pos i with h0 | h0
  · subst h0
    exact Rd.of_lst (us := []) hk (by simp) hc hm (fun h => absurd h (by omega)) (by simpa using Rd.nil)
  · obtain ⟨b, off, us, rfl, hb, hlen, hcell, hrd, hll⟩ := h.whole hk (by omega) k0
    have e1 : l.flatMap f = (l.take i).flatMap f ++ (l.drop i).flatMap f := by rw [← List.flatMap_append, List.take_append_drop]
    rw [e1] at hrd
    obtain ⟨u1, u2, rfl, r1, r2⟩ := hrd.split
    have l1 : u1.length = i * k := by rw [r1.len, flatMap_len hk, List.length_take, Nat.min_eq_left (by omega)]
    have hik : i * k ≤ n * k := Nat.mul_le_mul_right k hi
    exact Rd.of_lst hk (by rw [List.length_take]; omega) hc hm (fun _ => ⟨b, off, rfl, hb, fun j hj => by rw [hcell j (by omega), List.getElem?_append_left (by omega)]⟩) r1
theorem Rd.back (hk : ∀ x, (f x).length = k) (k0 : 0 < k) (h : Rd w B [Go.Proofs.Ytepnghjmpbfmcaa.lst e k f l] [.slice A n c]) (hi : i ≤ n) (hA2 : ∀ b off, A = some ⟨b, off, none⟩ → i < n → A2 = some ⟨b, off + i * k, none⟩) (hc : n - i ≤ c') (hm : c' ≤ maxLen) : Rd w B [Go.Proofs.Ytepnghjmpbfmcaa.lst e k f (l.drop i)] [.slice A2 (n - i) c'] := by
  obtain ⟨_, _, _, e0, hl, _, _, _⟩ := Rd.lst hk k0 h
  injection e0 with a1 a2 a3
  subst a1 a2 a3
  rcases Nat.eq_zero_or_pos (n - i) with h0 | h0
  · have hd : l.drop i = [] := List.drop_of_length_le (by omega)
    rw [hd]
    exact Rd.of_lst (us := []) hk (by simp [h0]) hc hm (fun h => absurd h (by omega)) (by simpa using Rd.nil)
  · obtain ⟨b, off, us, rfl, hb, hlen, hcell, hrd, hll⟩ := h.whole hk (by omega) k0
    have e1 : l.flatMap f = (l.take i).flatMap f ++ (l.drop i).flatMap f := by rw [← List.flatMap_append, List.take_append_drop]
    rw [e1] at hrd
    obtain ⟨u1, u2, rfl, r1, r2⟩ := hrd.split
    have l1 : u1.length = i * k := by rw [r1.len, flatMap_len hk, List.length_take, Nat.min_eq_left (by omega)]
    have hmul : (n - i) * k + i * k = n * k := by rw [← Nat.add_mul, Nat.sub_add_cancel hi]
    exact Rd.of_lst hk (by rw [List.length_drop, hll]) hc hm (fun _ => ⟨b, off + i * k, hA2 b off rfl (by omega), hb, fun j hj => by
      rw [Nat.add_assoc, hcell _ (by omega), List.getElem?_append_right (by omega), l1]
      congr 1
      omega⟩) r2
end

end Go.Proofs.Ytepnghjmpbfmcaa

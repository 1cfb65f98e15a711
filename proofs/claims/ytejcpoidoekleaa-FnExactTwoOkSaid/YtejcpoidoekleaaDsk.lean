/-
  Disks as plain data: the rows of the sectors and the waiting writes; how many numbers they hold.
-/
import Derived.Test.YtejcpoidoekleaaRepI
import Derived.Test.YtejcpoidoekleaaTo
namespace Go.Proofs.Ytejcpoidoekleaa
set_option maxRecDepth 100000
open Go.RowKit

/-- The first j summands. -/
def pre {α : Type} (g : α → Nat) (l : List α) (j : Nat) : Nat := ((l.take j).map g).sum
section
variable {α : Type} {g : α → Nat} {l : List α} {j k : Nat}
theorem pre_zero : pre g l 0 = 0 := by simp [pre]
theorem pre_succ (h : j < l.length) : pre g l (j + 1) = pre g l j + g l[j] := by
  unfold pre
  rw [List.take_succ_eq_append_getElem h, List.map_append, List.sum_append]
  simp
theorem pre_mono (h : j ≤ k) : pre g l j ≤ pre g l k := by
  induction k with
  | zero => have : j = 0 := by omega
            subst this; exact Nat.le_refl _
  | succ k ih =>
    rcases Nat.lt_or_ge j (k + 1) with h1 | h1
    · refine Nat.le_trans (ih (by omega)) ?_
      by_cases hk : k < l.length
      · rw [pre_succ hk]; omega
      · unfold pre
        rw [List.take_of_length_le (by omega), List.take_of_length_le (by omega)]
        exact Nat.le_refl _
    · have : j = k + 1 := by omega
      subst this; exact Nat.le_refl _
theorem pre_all : pre g l l.length = (l.map g).sum := by simp [pre]
theorem pre_le : pre g l j ≤ (l.map g).sum := by
  rw [← pre_all]
  rcases Nat.lt_or_ge j l.length with h | h
  · exact pre_mono (Nat.le_of_lt h)
  · unfold pre
    rw [List.take_of_length_le h, List.take_of_length_le (Nat.le_refl _)]
    exact Nat.le_refl _
theorem pre_at (h : j < l.length) : pre g l j + g l[j] ≤ (l.map g).sum := by rw [← pre_succ h]; exact pre_le
end

def rowC (r : List Int) : List Dat := [rowD r]
def wrC (p : Int × List Int) : List Dat := [.int p.1, rowD p.2]
def keptD (l : List (List Int)) : Dat := lst 35 1 rowC l
def waitD (l : List (Int × List Int)) : Dat := lst 49 2 wrC l
theorem rowC_len (r : List Int) : (rowC r).length = 1 := rfl
theorem wrC_len (p : Int × List Int) : (wrC p).length = 2 := rfl

structure DiskM where
  kept : List (List Int)
  wait : List (Int × List Int)
def DiskM.cells (d : DiskM) : List Dat := [keptD d.kept, waitD d.wait]

def rowsSz (l : List (List Int)) : Nat := l.length + (l.map List.length).sum
def wrSz (p : Int × List Int) : Nat := p.2.length
def waitSz (l : List (Int × List Int)) : Nat := l.length + (l.map wrSz).sum
def DiskM.sz (d : DiskM) : Nat := rowsSz d.kept + waitSz d.wait

/-- What is left of a purse. -/
def left (L : Int) (t : Nat) : Int := if (t : Int) ≤ L then L - (t : Int) else -1

section
variable {w : World} {B : Nat} {v0 v1 : Value} {d : DiskM}
theorem Rd.two {a b : Dat} {vs : List Value} (h : Rd w B [a, b] vs) : ∃ u0 u1, vs = [u0, u1] ∧ Rd w B [a] [u0] ∧ Rd w B [b] [u1] := by
  obtain ⟨x, y, rfl, h0, h1⟩ := Rd.split (ds := [a]) (ds' := [b]) h
  have l0 := h0.len
  have l1 := h1.len
  match x, y, l0, l1 with
  | [u0], [u1], _, _ => exact ⟨u0, u1, rfl, h0, h1⟩
theorem Rd.pair {a b : Dat} (h0 : Rd w B [a] [v0]) (h1 : Rd w B [b] [v1]) : Rd w B [a, b] [v0, v1] := h0.append h1

/-- The rows of the sectors, as the walks want them. -/
theorem Rd.kept {l : List (List Int)} (h : Rd w B [keptD l] [v0]) : ∃ A n c, v0 = .slice A n c ∧ l.length = n ∧ n ≤ c ∧ c ≤ maxLen ∧
    (0 < n → ∃ b off, A = some ⟨b, off, none⟩ ∧ b < B ∧ ∀ j (hj : j < l.length), ∃ A' m c', w.cell? ⟨b, off + j, none⟩ = some (.slice A' m c') ∧ IRow w B A' m l[j] ∧ m ≤ c' ∧ c' ≤ maxLen) := by
  obtain ⟨A, n, c, rfl, hl, h1, h2, h3⟩ := Rd.lst (k := 1) rowC_len Nat.one_pos h
  refine ⟨A, n, c, rfl, hl, h1, h2, fun hn => ?_⟩
  obtain ⟨b, off, rfl, hb, hc⟩ := h3 hn
  refine ⟨b, off, rfl, hb, fun j hj => ?_⟩
  obtain ⟨es, he, hr, hcell⟩ := hc j hj
  match es, he with
  | [u], _ =>
    obtain ⟨A', m, c', rfl, hi, hm⟩ := hr.irow
    have := hcell 0 (by omega)
    rw [Nat.mul_one, Nat.add_zero] at this
    exact ⟨A', m, c', this, hi, hm⟩

/-- The waiting writes, as the walks want them. -/
theorem Rd.wait {l : List (Int × List Int)} (h : Rd w B [waitD l] [v0]) : ∃ A n c, v0 = .slice A n c ∧ l.length = n ∧ n ≤ c ∧ c ≤ maxLen ∧
    (0 < n → ∃ b off, A = some ⟨b, off, none⟩ ∧ b < B ∧ ∀ j (hj : j < l.length), ∃ A' m c', w.cell? ⟨b, off + j * 2, none⟩ = some (.int .i64 l[j].1) ∧ w.cell? ⟨b, off + j * 2 + 1, none⟩ = some (.slice A' m c') ∧ IRow w B A' m l[j].2 ∧ m ≤ c' ∧ c' ≤ maxLen) := by
  obtain ⟨A, n, c, rfl, hl, h1, h2, h3⟩ := Rd.lst (k := 2) wrC_len (by decide) h
  refine ⟨A, n, c, rfl, hl, h1, h2, fun hn => ?_⟩
  obtain ⟨b, off, rfl, hb, hc⟩ := h3 hn
  refine ⟨b, off, rfl, hb, fun j hj => ?_⟩
  obtain ⟨es, he, hr, hcell⟩ := hc j hj
  match es, he with
  | [u0, u1], _ =>
    obtain ⟨x0, x1, e, r0, r1⟩ := hr.two
    injection e with e0 e1
    injection e1 with e1 _
    subst e0 e1
    obtain ⟨A', m, c', rfl, hi, hm⟩ := r1.irow
    have h0 := hcell 0 (by omega)
    have h1 := hcell 1 (by omega)
    rw [Nat.add_zero] at h0
    rw [r0.one] at h0
    exact ⟨A', m, c', h0, h1, hi, hm⟩
end

end Go.Proofs.Ytejcpoidoekleaa

/-
  Links and slices of them as plain data, and the laws' helpers for them (by program, wip/gen/typegen.py).
-/
import Derived.Test.YthcagdcbifdfeaaKA
import Derived.RegionTactic
import Derived.BigQuiet
namespace Go.Proofs.Ythcagdcbifdfeaa
set_option maxRecDepth 100000
open Go.RowKit

structure LinkM where
  a : Int
  b : Int
def linkC (x : LinkM) : List Dat := [.int x.a, .int x.b]
theorem linkC_len (x : LinkM) : (linkC x).length = 2 := rfl
def linkD (l : List LinkM) : Dat := lst 76 2 linkC l
def linkSz (l : List LinkM) : Nat := l.length
def linkNs (x : LinkM) : List Int := x.a :: x.b :: []
def linkN (l : List LinkM) : Nat := nums linkNs l l.length
def MarkedLinkS (l : List LinkM) (k : Int) : Prop := l.flatMap linkNs = upFrom k (l.flatMap linkNs).length
def MadeLinkS (w : World) (l : List LinkM) (e : Ending) (w' : World) : Prop :=
  ∃ A n c, e = .returned (.slice A n c) ∧ Has w' w.heap.size [linkD l] [.slice A n c] ∧ Below w.heap.size w w'
theorem infoLink : (Try.prog.info? 76).map (fun i => (i.zero, i.size, i.bytes)) = some (some (.agg #[.int .i64 0, .int .i64 0]), 2, 16) := by kernel_rfl
theorem ow_zero_link (w : World) : Ow w (linkC (⟨0, 0⟩ : LinkM)) [.int .i64 0, .int .i64 0] [] := .int (.int (.nil))
theorem Rd.links {w : World} {B : Nat} {v0 : Value} {l : List LinkM} (h : Rd w B [linkD l] [v0]) : ∃ A n c, v0 = .slice A n c ∧ l.length = n ∧ n ≤ c ∧ c ≤ maxLen ∧
    (0 < n → ∃ b off, A = some ⟨b, off, none⟩ ∧ b < B ∧ ∀ j (hj : j < l.length), w.cell? ⟨b, off + j * 2, none⟩ = some (.int .i64 l[j].a) ∧ w.cell? ⟨b, off + j * 2 + 1, none⟩ = some (.int .i64 l[j].b)) := by
  obtain ⟨A, n, c, rfl, hl, h1, h2, h3⟩ := Rd.lst (k := 2) linkC_len (by decide) h
  refine ⟨A, n, c, rfl, hl, h1, h2, fun hn => ?_⟩
  obtain ⟨b, off, rfl, hb, hc⟩ := h3 hn
  refine ⟨b, off, rfl, hb, fun j hj => ?_⟩
  obtain ⟨es, he, hr, hcell⟩ := hc j hj
  match es, he with
  | [u0, u1], _ =>
    have h0' := hcell 0 (by omega)
    have h1' := hcell 1 (by omega)
    simp only [Nat.add_zero] at h0'
    have g0 : Rd w B (linkC l[j]) [u0, u1] := hr
    obtain ⟨e0, g1⟩ := Rd.int_cons g0
    obtain ⟨e1, g2⟩ := Rd.int_cons g1
    subst e0
    subst e1
    exact ⟨h0', h1'⟩
theorem Ow.link {w : World} {x : LinkM} {y0 y1 : Value} {f2 : List Nat} (h : Ow w (linkC x) [y0, y1] f2) : y0 = .int .i64 x.a ∧ y1 = .int .i64 x.b ∧ f2 = [] := by
  have g0 : Ow w (linkC x) [y0, y1] f2 := h
  obtain ⟨e0, g1⟩ := Ow.int_cons g0
  obtain ⟨e1, g2⟩ := Ow.int_cons g1
  exact ⟨e0, e1, Ow.nil_foot g2⟩
theorem linkN_eq (l : List LinkM) : (l.map (fun r => (linkNs r).length)).sum = 2 * l.length := by
  induction l with
  | nil => rfl
  | cons x l ih =>
    rw [List.map_cons, List.sum_cons, ih, List.length_cons]
    have h1 : (linkNs x).length = 2 := rfl
    omega
theorem linkN_le (l : List LinkM) : linkN l ≤ 2 * linkSz l := by
  unfold linkN nums
  rw [pre_all, linkN_eq]
  unfold linkSz
  omega
theorem linkSz_map {l l' : List LinkM} (h : l'.map (fun r => (linkNs r).length) = l.map (fun r => (linkNs r).length)) : linkSz l' = linkSz l := by
  have h1 := len_of_map h
  exact h1

end Go.Proofs.Ythcagdcbifdfeaa

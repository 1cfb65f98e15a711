/-
  Rows of entries as a mathematics, and a number of an own row changed in its place.
-/
import Derived.Test.YtnlbaejnpbkghaaEntM
import Derived.Test.YtnlbaejnpbkghaaDrT
namespace Go.Proofs.Ytnlbaejnpbkghaa
set_option maxRecDepth 100000
open Go.RowKit

theorem ow_irow {w : World} {xs : List Int} {A : Option Addr} {n c : Nat} {fp : List Nat} (h : Ow w (rowCells xs) [.slice A n c] fp) : IRow w w.heap.size A n xs ∧ n ≤ c ∧ n ≤ maxLen := by
  obtain ⟨_, _, _, e, hi, h1, h2⟩ := h.rd.rowS
  injection e with e1 e2 e3
  subst e1 e2 e3
  exact ⟨hi, h1, Nat.le_trans h1 h2⟩
theorem row_cell {w : World} {xs : List Int} {A : Option Addr} {n c : Nat} {fp : List Nat} (h : Ow w (rowCells xs) [.slice A n c] fp) (hn : fp.Nodup) {j : Nat} (hj : j < xs.length) :
    ∃ g, A = some ⟨g, 0, none⟩ ∧ w.cell? ⟨g, j, none⟩ = some (.int .i64 (xs.getD j 0)) ∧ w.frozen? ⟨g, j, none⟩ = false ∧ g ∈ fp ∧
      ∀ u : Int, Ow (w.setCell ⟨g, j, none⟩ (.int .i64 u)) (rowCells (xs.set j u)) [.slice A n c] fp := by
  obtain ⟨g, c', es, f2, e, _, _, hes, hcell, hfree, ho, _, _, hin, _, _, hput⟩ := Ow.elem (f := fun y : Int => [Dat.int y]) (k := 1) (fun _ => rfl) Nat.one_pos h hn hj
  injection e with e1 e2 e3
  subst e1 e2 e3
  match es, hes with
  | [z], _ =>
    have g0 : Ow w [Dat.int xs[j]] [z] f2 := ho
    obtain ⟨ez, g1⟩ := Ow.int_cons g0
    subst ez
    have hf := Ow.nil_foot g1
    subst hf
    have h0 := hcell 0 (by omega)
    rw [Nat.mul_one, Nat.add_zero] at h0
    refine ⟨g, rfl, ?_, hfree j, hin, fun u => ?_⟩
    · rw [h0]
      simp [List.getD, List.getElem?_eq_getElem hj]
    · have h2 := hput 0 (.int .i64 u) u (by omega)
      rw [Nat.mul_one, Nat.add_zero] at h2
      exact h2 (.int .nil)
theorem list9 (r : List Int) (h : r.length = 9) : ∃ y0 y1 y2 y3 y4 y5 y6 y7 y8, r = [y0, y1, y2, y3, y4, y5, y6, y7, y8] := by
  match r, h with
  | [y0, y1, y2, y3, y4, y5, y6, y7, y8], _ => exact ⟨y0, y1, y2, y3, y4, y5, y6, y7, y8, rfl⟩
theorem entRow_ns {y0 y1 y2 y3 y4 y5 y6 y7 y8 : Int} (h : entB ⟨y0, y1, y2, y3, y4, y5, y6, y7, y8⟩ = true) : entRowM ⟨y0, y1, y2, y3, y4, y5, y6, y7, y8⟩ = [y0, y1, y2, y3, y4, y5, y6, y7, y8] := by
  unfold entRowM
  rw [if_pos h]
  rfl
theorem rowEnt_yes {y0 y1 y2 y3 y4 y5 y6 y7 y8 : Int} (h : entB ⟨y0, y1, y2, y3, y4, y5, y6, y7, y8⟩ = true) : rowEntM [y0, y1, y2, y3, y4, y5, y6, y7, y8] = (⟨y0, y1, y2, y3, y4, y5, y6, y7, y8⟩, true) := by
  unfold rowEntM
  rw [if_pos (show [y0, y1, y2, y3, y4, y5, y6, y7, y8].length = 9 from rfl), if_pos (show entB (ofEnt [y0, y1, y2, y3, y4, y5, y6, y7, y8]) = true from h)]
  rfl
theorem rowEnt_no {y0 y1 y2 y3 y4 y5 y6 y7 y8 : Int} (h : entB ⟨y0, y1, y2, y3, y4, y5, y6, y7, y8⟩ = false) : rowEntM [y0, y1, y2, y3, y4, y5, y6, y7, y8] = (ent0, false) := by
  unfold rowEntM
  rw [if_pos (show [y0, y1, y2, y3, y4, y5, y6, y7, y8].length = 9 from rfl), if_neg (by rw [show entB (ofEnt [y0, y1, y2, y3, y4, y5, y6, y7, y8]) = false from h]; decide)]
theorem opB_num {o : OpM} (h : opB o = true) : (0 ≤ o.kind ∧ o.kind ≤ 1000000) ∧ (0 ≤ o.a ∧ o.a ≤ 1000000) ∧ (0 ≤ o.b ∧ o.b ≤ 1000000) ∧ (0 ≤ o.c ∧ o.c ≤ 1000000) ∧ (0 ≤ o.d ∧ o.d ≤ 1000000) := by
  have hk := opB_kind h
  unfold opB at h
  split at h
  · simp only [Bool.and_eq_true, inB_iff, decide_eq_true_eq] at h; omega
  · split at h
    · simp only [Bool.and_eq_true, inB_iff, decide_eq_true_eq] at h; omega
    · split at h
      · simp only [Bool.and_eq_true, inB_iff] at h; omega
      · split at h
        · simp only [Bool.and_eq_true, inB_iff, decide_eq_true_eq] at h; omega
        · split at h
          · simp only [Bool.and_eq_true, inB_iff, decide_eq_true_eq] at h; omega
          · cases h
theorem entRow_ok {y0 y1 y2 y3 y4 y5 y6 y7 y8 : Int} (h : entB ⟨y0, y1, y2, y3, y4, y5, y6, y7, y8⟩ = true) : rowOk [y0, y1, y2, y3, y4, y5, y6, y7, y8] = true := by
  obtain ⟨h0, h1, h2, h3, h4⟩ := (entB_iff _).1 h
  obtain ⟨k0, k1, k2, k3, k4⟩ := opB_num h4
  simp only [EntM.op] at h0 h1 h2 h3 k0 k1 k2 k3 k4
  simp only [rowOk, Bool.and_eq_true, decide_eq_true_eq, List.all_eq_true]
  refine ⟨by simp, fun x hx => ?_⟩
  simp only [numOk, Bool.and_eq_true, decide_eq_true_eq]
  simp only [List.mem_cons, List.not_mem_nil, or_false] at hx
  omega

end Go.Proofs.Ytnlbaejnpbkghaa

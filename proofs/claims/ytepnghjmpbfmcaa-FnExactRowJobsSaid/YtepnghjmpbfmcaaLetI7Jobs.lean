/-
  Chapter 11: RowJobs of the program (by program, wip/gen/genleti7.py).
-/
import Derived.Test.YtepnghjmpbfmcaaLetI6
import Derived.RegionTactic
import Derived.BigQuiet
import Derived.Laws.EntriesVeiled
namespace Go.Proofs.Ytepnghjmpbfmcaa
set_option maxRecDepth 100000
open Go.RowKit

set_option linter.unusedVariables false
set_option linter.unusedSimpArgs false
set_option maxHeartbeats 12800000 in
theorem iRowJobs_at (A : Option Addr) (n c : Nat) (d0 : List Int) (w : World) (h : Rd w w.heap.size (rowCells d0) [.slice A n c]) (hs : d0.length ≤ 1048576) :
    Calls Try.prog 9 #[.slice A n c] w fun e w' => ∃ (y0 y1 y2 y3 y4 : Int) (A2 : Option Addr) (n2 c2 : Nat), e = .returned (.tuple #[.agg #[.int .i64 y0, .int .i64 y1, .int .i64 y2, .int .i64 y3, .int .i64 y4, .slice A2 n2 c2], .bool (rowJobsM d0).2]) ∧ Has w' w.heap.size ((rowJobsM d0).1.cells) [.int .i64 y0, .int .i64 y1, .int .i64 y2, .int .i64 y3, .int .i64 y4, .slice A2 n2 c2] ∧ Below w.heap.size w w' := by
  obtain ⟨_, _, _, e, hi, hnc, hcm⟩ := h.irow
  injection e with e1 e2 e3
  subst e1 e2 e3
  have hn : n ≤ 1048577 := by have := hi.1; omega
  have HI := Lib.hid hi
  rw [rowJobs_in d0]
  have hnc2 := hnc
  obtain ⟨cc, hcc⟩ : ∃ q, q = c := ⟨_, rfl⟩
  rw [← hcc] at hnc hcm ⊢
  clear h hs hi hnc2 hcc c
  have S := Sep.nil w w.heap.size
  have c := Below.refl w.heap.size w
  replace S := S.boxAt c.size (w.heap.size) rfl #[.int .i64 0, .int .i64 0, .int .i64 0, .int .i64 0, .int .i64 0, .slice none 0 0] 25
  replace c := c.alloc c.size (.cells #[.int .i64 0, .int .i64 0, .int .i64 0, .int .i64 0, .int .i64 0, .slice none 0 0] 25)
  go_enter Try.func9, Try.ntmps9
  go_wp2_with fail
  generalize w.alloc (.cells #[.int .i64 0, .int .i64 0, .int .i64 0, .int .i64 0, .int .i64 0, .slice none 0 0] 25) = w1 at *
  refine (iLetIn_any A n cc w.heap.size d0 _ (HI.out.below c) c.size hn hnc hcm).mono ?_
  rintro e w2 ⟨v, rfl, hv, b⟩
  clear hn hnc hcm
  rcases ho : letInM d0 with _ | m
  · rw [ho] at hv
    have HEO := Lib.hid ho
    clear ho
    have hv' : v = .nilIface := hv
    subst hv'
    clear hv
    have q1 : ∀ w9, (Instr.typeAssert (.nilIface) 87 25 true).run Try.prog w9 = .ok (.tuple #[.agg #[.int .i64 0, .int .i64 0, .int .i64 0, .int .i64 0, .int .i64 0, .slice none 0 0], .bool false]) w9 := fun _ => by kernel_rfl
    replace c := c.trans (b.mono c.size)
    replace S := S.keep b
    clear b
    replace S := S.boxAt c.size (w2.heap.size) rfl #[.int .i64 0, .int .i64 0, .int .i64 0, .int .i64 0, .int .i64 0, .slice none 0 0] 25
    replace c := c.alloc c.size (.cells #[.int .i64 0, .int .i64 0, .int .i64 0, .int .i64 0, .int .i64 0, .slice none 0 0] 25)
    have f0 : (w2.alloc (.cells #[.int .i64 0, .int .i64 0, .int .i64 0, .int .i64 0, .int .i64 0, .slice none 0 0] 25)).cell? ⟨w2.heap.size, 0, none⟩ = some (.int .i64 0) := (S.at_ 0 rfl).cell 0
    have f1 := (S.at_ 0 rfl).free 0
    have f2 : (w2.alloc (.cells #[.int .i64 0, .int .i64 0, .int .i64 0, .int .i64 0, .int .i64 0, .slice none 0 0] 25)).cell? ⟨w2.heap.size, 1, none⟩ = some (.int .i64 0) := (S.at_ 0 rfl).cell 1
    have f3 := (S.at_ 0 rfl).free 1
    have f4 : (w2.alloc (.cells #[.int .i64 0, .int .i64 0, .int .i64 0, .int .i64 0, .int .i64 0, .slice none 0 0] 25)).cell? ⟨w2.heap.size, 2, none⟩ = some (.int .i64 0) := (S.at_ 0 rfl).cell 2
    have f5 := (S.at_ 0 rfl).free 2
    have f6 : (w2.alloc (.cells #[.int .i64 0, .int .i64 0, .int .i64 0, .int .i64 0, .int .i64 0, .slice none 0 0] 25)).cell? ⟨w2.heap.size, 3, none⟩ = some (.int .i64 0) := (S.at_ 0 rfl).cell 3
    have f7 := (S.at_ 0 rfl).free 3
    have f8 : (w2.alloc (.cells #[.int .i64 0, .int .i64 0, .int .i64 0, .int .i64 0, .int .i64 0, .slice none 0 0] 25)).cell? ⟨w2.heap.size, 4, none⟩ = some (.int .i64 0) := (S.at_ 0 rfl).cell 4
    have f9 := (S.at_ 0 rfl).free 4
    have f10 : (w2.alloc (.cells #[.int .i64 0, .int .i64 0, .int .i64 0, .int .i64 0, .int .i64 0, .slice none 0 0] 25)).cell? ⟨w2.heap.size, 5, none⟩ = some (.slice none 0 0) := (S.at_ 0 rfl).cell 5
    have f11 := (S.at_ 0 rfl).free 5
    have f12 : (w2.alloc (.cells #[.int .i64 0, .int .i64 0, .int .i64 0, .int .i64 0, .int .i64 0, .slice none 0 0] 25)).cell? ⟨w.heap.size, 0, none⟩ = some (.int .i64 0) := (S.at_ 1 rfl).cell 0
    have f13 := (S.at_ 1 rfl).free 0
    have f14 : (w2.alloc (.cells #[.int .i64 0, .int .i64 0, .int .i64 0, .int .i64 0, .int .i64 0, .slice none 0 0] 25)).cell? ⟨w.heap.size, 1, none⟩ = some (.int .i64 0) := (S.at_ 1 rfl).cell 1
    have f15 := (S.at_ 1 rfl).free 1
    have f16 : (w2.alloc (.cells #[.int .i64 0, .int .i64 0, .int .i64 0, .int .i64 0, .int .i64 0, .slice none 0 0] 25)).cell? ⟨w.heap.size, 2, none⟩ = some (.int .i64 0) := (S.at_ 1 rfl).cell 2
    have f17 := (S.at_ 1 rfl).free 2
    have f18 : (w2.alloc (.cells #[.int .i64 0, .int .i64 0, .int .i64 0, .int .i64 0, .int .i64 0, .slice none 0 0] 25)).cell? ⟨w.heap.size, 3, none⟩ = some (.int .i64 0) := (S.at_ 1 rfl).cell 3
    have f19 := (S.at_ 1 rfl).free 3
    have f20 : (w2.alloc (.cells #[.int .i64 0, .int .i64 0, .int .i64 0, .int .i64 0, .int .i64 0, .slice none 0 0] 25)).cell? ⟨w.heap.size, 4, none⟩ = some (.int .i64 0) := (S.at_ 1 rfl).cell 4
    have f21 := (S.at_ 1 rfl).free 4
    have f22 : (w2.alloc (.cells #[.int .i64 0, .int .i64 0, .int .i64 0, .int .i64 0, .int .i64 0, .slice none 0 0] 25)).cell? ⟨w.heap.size, 5, none⟩ = some (.slice none 0 0) := (S.at_ 1 rfl).cell 5
    have f23 := (S.at_ 1 rfl).free 5
    replace S := S.put 1 rfl 0 (.int .i64 0)
    replace c := c.setCell (p := ⟨w.heap.size, 0, none⟩) (by show w.heap.size ≤ w.heap.size; omega) (.int .i64 0)
    replace S := S.put 1 rfl 1 (.int .i64 0)
    replace c := c.setCell (p := ⟨w.heap.size, 1, none⟩) (by show w.heap.size ≤ w.heap.size; omega) (.int .i64 0)
    replace S := S.put 1 rfl 2 (.int .i64 0)
    replace c := c.setCell (p := ⟨w.heap.size, 2, none⟩) (by show w.heap.size ≤ w.heap.size; omega) (.int .i64 0)
    replace S := S.put 1 rfl 3 (.int .i64 0)
    replace c := c.setCell (p := ⟨w.heap.size, 3, none⟩) (by show w.heap.size ≤ w.heap.size; omega) (.int .i64 0)
    replace S := S.put 1 rfl 4 (.int .i64 0)
    replace c := c.setCell (p := ⟨w.heap.size, 4, none⟩) (by show w.heap.size ≤ w.heap.size; omega) (.int .i64 0)
    replace S := S.put 1 rfl 5 (.slice none 0 0)
    replace c := c.setCell (p := ⟨w.heap.size, 5, none⟩) (by show w.heap.size ≤ w.heap.size; omega) (.slice none 0 0)
    have r0 := Lib.hid (show (((((((w2.alloc (.cells #[.int .i64 0, .int .i64 0, .int .i64 0, .int .i64 0, .int .i64 0, .slice none 0 0] 25)).setCell ⟨w.heap.size, 0, none⟩ (.int .i64 0)).setCell ⟨w.heap.size, 1, none⟩ (.int .i64 0)).setCell ⟨w.heap.size, 2, none⟩ (.int .i64 0)).setCell ⟨w.heap.size, 3, none⟩ (.int .i64 0)).setCell ⟨w.heap.size, 4, none⟩ (.int .i64 0)).setCell ⟨w.heap.size, 5, none⟩ (.slice none 0 0)).cell? ⟨w.heap.size, 0, none⟩ = some (.int .i64 0) from (S.at_ 1 rfl).cell 0)
    have r1 := Lib.hid (show (((((((w2.alloc (.cells #[.int .i64 0, .int .i64 0, .int .i64 0, .int .i64 0, .int .i64 0, .slice none 0 0] 25)).setCell ⟨w.heap.size, 0, none⟩ (.int .i64 0)).setCell ⟨w.heap.size, 1, none⟩ (.int .i64 0)).setCell ⟨w.heap.size, 2, none⟩ (.int .i64 0)).setCell ⟨w.heap.size, 3, none⟩ (.int .i64 0)).setCell ⟨w.heap.size, 4, none⟩ (.int .i64 0)).setCell ⟨w.heap.size, 5, none⟩ (.slice none 0 0)).cell? ⟨w.heap.size, 1, none⟩ = some (.int .i64 0) from (S.at_ 1 rfl).cell 1)
    have r2 := Lib.hid (show (((((((w2.alloc (.cells #[.int .i64 0, .int .i64 0, .int .i64 0, .int .i64 0, .int .i64 0, .slice none 0 0] 25)).setCell ⟨w.heap.size, 0, none⟩ (.int .i64 0)).setCell ⟨w.heap.size, 1, none⟩ (.int .i64 0)).setCell ⟨w.heap.size, 2, none⟩ (.int .i64 0)).setCell ⟨w.heap.size, 3, none⟩ (.int .i64 0)).setCell ⟨w.heap.size, 4, none⟩ (.int .i64 0)).setCell ⟨w.heap.size, 5, none⟩ (.slice none 0 0)).cell? ⟨w.heap.size, 2, none⟩ = some (.int .i64 0) from (S.at_ 1 rfl).cell 2)
    have r3 := Lib.hid (show (((((((w2.alloc (.cells #[.int .i64 0, .int .i64 0, .int .i64 0, .int .i64 0, .int .i64 0, .slice none 0 0] 25)).setCell ⟨w.heap.size, 0, none⟩ (.int .i64 0)).setCell ⟨w.heap.size, 1, none⟩ (.int .i64 0)).setCell ⟨w.heap.size, 2, none⟩ (.int .i64 0)).setCell ⟨w.heap.size, 3, none⟩ (.int .i64 0)).setCell ⟨w.heap.size, 4, none⟩ (.int .i64 0)).setCell ⟨w.heap.size, 5, none⟩ (.slice none 0 0)).cell? ⟨w.heap.size, 3, none⟩ = some (.int .i64 0) from (S.at_ 1 rfl).cell 3)
    have r4 := Lib.hid (show (((((((w2.alloc (.cells #[.int .i64 0, .int .i64 0, .int .i64 0, .int .i64 0, .int .i64 0, .slice none 0 0] 25)).setCell ⟨w.heap.size, 0, none⟩ (.int .i64 0)).setCell ⟨w.heap.size, 1, none⟩ (.int .i64 0)).setCell ⟨w.heap.size, 2, none⟩ (.int .i64 0)).setCell ⟨w.heap.size, 3, none⟩ (.int .i64 0)).setCell ⟨w.heap.size, 4, none⟩ (.int .i64 0)).setCell ⟨w.heap.size, 5, none⟩ (.slice none 0 0)).cell? ⟨w.heap.size, 4, none⟩ = some (.int .i64 0) from (S.at_ 1 rfl).cell 4)
    have r5 := Lib.hid (show (((((((w2.alloc (.cells #[.int .i64 0, .int .i64 0, .int .i64 0, .int .i64 0, .int .i64 0, .slice none 0 0] 25)).setCell ⟨w.heap.size, 0, none⟩ (.int .i64 0)).setCell ⟨w.heap.size, 1, none⟩ (.int .i64 0)).setCell ⟨w.heap.size, 2, none⟩ (.int .i64 0)).setCell ⟨w.heap.size, 3, none⟩ (.int .i64 0)).setCell ⟨w.heap.size, 4, none⟩ (.int .i64 0)).setCell ⟨w.heap.size, 5, none⟩ (.slice none 0 0)).cell? ⟨w.heap.size, 5, none⟩ = some (.slice none 0 0) from (S.at_ 1 rfl).cell 5)
    have CC := Lib.hid c
    clear S c
    go_wp2
    exact bodyPost_ret (v := .tuple #[.agg #[.int .i64 0, .int .i64 0, .int .i64 0, .int .i64 0, .int .i64 0, .slice none 0 0], .bool false]) (by simp [results, Try.results9, go_sem, r0.out, r1.out, r2.out, r3.out, r4.out, r5.out]) rfl ⟨0, 0, 0, 0, 0, none, 0, 0, by rw [HEO.out] <;> rfl, by rw [HEO.out]; exact Has.int (Has.int (Has.int (Has.int (Has.int (has_nil_djs _ _))))), CC.out⟩
  · rcases m with a | a | a | a | a | a | a | a | a
    · rw [ho] at hv
      have HEO := Lib.hid ho
      clear ho
      obtain ⟨u, hu⟩ : ∃ u, v = .iface 45 u := ⟨_, hv⟩
      subst hu
      clear hv
      have q1 : ∀ w9, (Instr.typeAssert (.iface 45 u) 87 25 true).run Try.prog w9 = .ok (.tuple #[.agg #[.int .i64 0, .int .i64 0, .int .i64 0, .int .i64 0, .int .i64 0, .slice none 0 0], .bool false]) w9 := fun _ => by kernel_rfl
      replace c := c.trans (b.mono c.size)
      replace S := S.keep b
      clear b
      replace S := S.boxAt c.size (w2.heap.size) rfl #[.int .i64 0, .int .i64 0, .int .i64 0, .int .i64 0, .int .i64 0, .slice none 0 0] 25
      replace c := c.alloc c.size (.cells #[.int .i64 0, .int .i64 0, .int .i64 0, .int .i64 0, .int .i64 0, .slice none 0 0] 25)
      have f0 : (w2.alloc (.cells #[.int .i64 0, .int .i64 0, .int .i64 0, .int .i64 0, .int .i64 0, .slice none 0 0] 25)).cell? ⟨w2.heap.size, 0, none⟩ = some (.int .i64 0) := (S.at_ 0 rfl).cell 0
      have f1 := (S.at_ 0 rfl).free 0
      have f2 : (w2.alloc (.cells #[.int .i64 0, .int .i64 0, .int .i64 0, .int .i64 0, .int .i64 0, .slice none 0 0] 25)).cell? ⟨w2.heap.size, 1, none⟩ = some (.int .i64 0) := (S.at_ 0 rfl).cell 1
      have f3 := (S.at_ 0 rfl).free 1
      have f4 : (w2.alloc (.cells #[.int .i64 0, .int .i64 0, .int .i64 0, .int .i64 0, .int .i64 0, .slice none 0 0] 25)).cell? ⟨w2.heap.size, 2, none⟩ = some (.int .i64 0) := (S.at_ 0 rfl).cell 2
      have f5 := (S.at_ 0 rfl).free 2
      have f6 : (w2.alloc (.cells #[.int .i64 0, .int .i64 0, .int .i64 0, .int .i64 0, .int .i64 0, .slice none 0 0] 25)).cell? ⟨w2.heap.size, 3, none⟩ = some (.int .i64 0) := (S.at_ 0 rfl).cell 3
      have f7 := (S.at_ 0 rfl).free 3
      have f8 : (w2.alloc (.cells #[.int .i64 0, .int .i64 0, .int .i64 0, .int .i64 0, .int .i64 0, .slice none 0 0] 25)).cell? ⟨w2.heap.size, 4, none⟩ = some (.int .i64 0) := (S.at_ 0 rfl).cell 4
      have f9 := (S.at_ 0 rfl).free 4
      have f10 : (w2.alloc (.cells #[.int .i64 0, .int .i64 0, .int .i64 0, .int .i64 0, .int .i64 0, .slice none 0 0] 25)).cell? ⟨w2.heap.size, 5, none⟩ = some (.slice none 0 0) := (S.at_ 0 rfl).cell 5
      have f11 := (S.at_ 0 rfl).free 5
      have f12 : (w2.alloc (.cells #[.int .i64 0, .int .i64 0, .int .i64 0, .int .i64 0, .int .i64 0, .slice none 0 0] 25)).cell? ⟨w.heap.size, 0, none⟩ = some (.int .i64 0) := (S.at_ 1 rfl).cell 0
      have f13 := (S.at_ 1 rfl).free 0
      have f14 : (w2.alloc (.cells #[.int .i64 0, .int .i64 0, .int .i64 0, .int .i64 0, .int .i64 0, .slice none 0 0] 25)).cell? ⟨w.heap.size, 1, none⟩ = some (.int .i64 0) := (S.at_ 1 rfl).cell 1
      have f15 := (S.at_ 1 rfl).free 1
      have f16 : (w2.alloc (.cells #[.int .i64 0, .int .i64 0, .int .i64 0, .int .i64 0, .int .i64 0, .slice none 0 0] 25)).cell? ⟨w.heap.size, 2, none⟩ = some (.int .i64 0) := (S.at_ 1 rfl).cell 2
      have f17 := (S.at_ 1 rfl).free 2
      have f18 : (w2.alloc (.cells #[.int .i64 0, .int .i64 0, .int .i64 0, .int .i64 0, .int .i64 0, .slice none 0 0] 25)).cell? ⟨w.heap.size, 3, none⟩ = some (.int .i64 0) := (S.at_ 1 rfl).cell 3
      have f19 := (S.at_ 1 rfl).free 3
      have f20 : (w2.alloc (.cells #[.int .i64 0, .int .i64 0, .int .i64 0, .int .i64 0, .int .i64 0, .slice none 0 0] 25)).cell? ⟨w.heap.size, 4, none⟩ = some (.int .i64 0) := (S.at_ 1 rfl).cell 4
      have f21 := (S.at_ 1 rfl).free 4
      have f22 : (w2.alloc (.cells #[.int .i64 0, .int .i64 0, .int .i64 0, .int .i64 0, .int .i64 0, .slice none 0 0] 25)).cell? ⟨w.heap.size, 5, none⟩ = some (.slice none 0 0) := (S.at_ 1 rfl).cell 5
      have f23 := (S.at_ 1 rfl).free 5
      replace S := S.put 1 rfl 0 (.int .i64 0)
      replace c := c.setCell (p := ⟨w.heap.size, 0, none⟩) (by show w.heap.size ≤ w.heap.size; omega) (.int .i64 0)
      replace S := S.put 1 rfl 1 (.int .i64 0)
      replace c := c.setCell (p := ⟨w.heap.size, 1, none⟩) (by show w.heap.size ≤ w.heap.size; omega) (.int .i64 0)
      replace S := S.put 1 rfl 2 (.int .i64 0)
      replace c := c.setCell (p := ⟨w.heap.size, 2, none⟩) (by show w.heap.size ≤ w.heap.size; omega) (.int .i64 0)
      replace S := S.put 1 rfl 3 (.int .i64 0)
      replace c := c.setCell (p := ⟨w.heap.size, 3, none⟩) (by show w.heap.size ≤ w.heap.size; omega) (.int .i64 0)
      replace S := S.put 1 rfl 4 (.int .i64 0)
      replace c := c.setCell (p := ⟨w.heap.size, 4, none⟩) (by show w.heap.size ≤ w.heap.size; omega) (.int .i64 0)
      replace S := S.put 1 rfl 5 (.slice none 0 0)
      replace c := c.setCell (p := ⟨w.heap.size, 5, none⟩) (by show w.heap.size ≤ w.heap.size; omega) (.slice none 0 0)
      have r0 := Lib.hid (show (((((((w2.alloc (.cells #[.int .i64 0, .int .i64 0, .int .i64 0, .int .i64 0, .int .i64 0, .slice none 0 0] 25)).setCell ⟨w.heap.size, 0, none⟩ (.int .i64 0)).setCell ⟨w.heap.size, 1, none⟩ (.int .i64 0)).setCell ⟨w.heap.size, 2, none⟩ (.int .i64 0)).setCell ⟨w.heap.size, 3, none⟩ (.int .i64 0)).setCell ⟨w.heap.size, 4, none⟩ (.int .i64 0)).setCell ⟨w.heap.size, 5, none⟩ (.slice none 0 0)).cell? ⟨w.heap.size, 0, none⟩ = some (.int .i64 0) from (S.at_ 1 rfl).cell 0)
      have r1 := Lib.hid (show (((((((w2.alloc (.cells #[.int .i64 0, .int .i64 0, .int .i64 0, .int .i64 0, .int .i64 0, .slice none 0 0] 25)).setCell ⟨w.heap.size, 0, none⟩ (.int .i64 0)).setCell ⟨w.heap.size, 1, none⟩ (.int .i64 0)).setCell ⟨w.heap.size, 2, none⟩ (.int .i64 0)).setCell ⟨w.heap.size, 3, none⟩ (.int .i64 0)).setCell ⟨w.heap.size, 4, none⟩ (.int .i64 0)).setCell ⟨w.heap.size, 5, none⟩ (.slice none 0 0)).cell? ⟨w.heap.size, 1, none⟩ = some (.int .i64 0) from (S.at_ 1 rfl).cell 1)
      have r2 := Lib.hid (show (((((((w2.alloc (.cells #[.int .i64 0, .int .i64 0, .int .i64 0, .int .i64 0, .int .i64 0, .slice none 0 0] 25)).setCell ⟨w.heap.size, 0, none⟩ (.int .i64 0)).setCell ⟨w.heap.size, 1, none⟩ (.int .i64 0)).setCell ⟨w.heap.size, 2, none⟩ (.int .i64 0)).setCell ⟨w.heap.size, 3, none⟩ (.int .i64 0)).setCell ⟨w.heap.size, 4, none⟩ (.int .i64 0)).setCell ⟨w.heap.size, 5, none⟩ (.slice none 0 0)).cell? ⟨w.heap.size, 2, none⟩ = some (.int .i64 0) from (S.at_ 1 rfl).cell 2)
      have r3 := Lib.hid (show (((((((w2.alloc (.cells #[.int .i64 0, .int .i64 0, .int .i64 0, .int .i64 0, .int .i64 0, .slice none 0 0] 25)).setCell ⟨w.heap.size, 0, none⟩ (.int .i64 0)).setCell ⟨w.heap.size, 1, none⟩ (.int .i64 0)).setCell ⟨w.heap.size, 2, none⟩ (.int .i64 0)).setCell ⟨w.heap.size, 3, none⟩ (.int .i64 0)).setCell ⟨w.heap.size, 4, none⟩ (.int .i64 0)).setCell ⟨w.heap.size, 5, none⟩ (.slice none 0 0)).cell? ⟨w.heap.size, 3, none⟩ = some (.int .i64 0) from (S.at_ 1 rfl).cell 3)
      have r4 := Lib.hid (show (((((((w2.alloc (.cells #[.int .i64 0, .int .i64 0, .int .i64 0, .int .i64 0, .int .i64 0, .slice none 0 0] 25)).setCell ⟨w.heap.size, 0, none⟩ (.int .i64 0)).setCell ⟨w.heap.size, 1, none⟩ (.int .i64 0)).setCell ⟨w.heap.size, 2, none⟩ (.int .i64 0)).setCell ⟨w.heap.size, 3, none⟩ (.int .i64 0)).setCell ⟨w.heap.size, 4, none⟩ (.int .i64 0)).setCell ⟨w.heap.size, 5, none⟩ (.slice none 0 0)).cell? ⟨w.heap.size, 4, none⟩ = some (.int .i64 0) from (S.at_ 1 rfl).cell 4)
      have r5 := Lib.hid (show (((((((w2.alloc (.cells #[.int .i64 0, .int .i64 0, .int .i64 0, .int .i64 0, .int .i64 0, .slice none 0 0] 25)).setCell ⟨w.heap.size, 0, none⟩ (.int .i64 0)).setCell ⟨w.heap.size, 1, none⟩ (.int .i64 0)).setCell ⟨w.heap.size, 2, none⟩ (.int .i64 0)).setCell ⟨w.heap.size, 3, none⟩ (.int .i64 0)).setCell ⟨w.heap.size, 4, none⟩ (.int .i64 0)).setCell ⟨w.heap.size, 5, none⟩ (.slice none 0 0)).cell? ⟨w.heap.size, 5, none⟩ = some (.slice none 0 0) from (S.at_ 1 rfl).cell 5)
      have CC := Lib.hid c
      clear S c
      go_wp2
      exact bodyPost_ret (v := .tuple #[.agg #[.int .i64 0, .int .i64 0, .int .i64 0, .int .i64 0, .int .i64 0, .slice none 0 0], .bool false]) (by simp [results, Try.results9, go_sem, r0.out, r1.out, r2.out, r3.out, r4.out, r5.out]) rfl ⟨0, 0, 0, 0, 0, none, 0, 0, by rw [HEO.out] <;> rfl, by rw [HEO.out]; exact Has.int (Has.int (Has.int (Has.int (Has.int (has_nil_djs _ _))))), CC.out⟩
    · rw [ho] at hv
      have HEO := Lib.hid ho
      clear ho
      obtain ⟨u, hu⟩ : ∃ u, v = .iface 49 u := ⟨_, hv⟩
      subst hu
      clear hv
      have q1 : ∀ w9, (Instr.typeAssert (.iface 49 u) 87 25 true).run Try.prog w9 = .ok (.tuple #[.agg #[.int .i64 0, .int .i64 0, .int .i64 0, .int .i64 0, .int .i64 0, .slice none 0 0], .bool false]) w9 := fun _ => by kernel_rfl
      replace c := c.trans (b.mono c.size)
      replace S := S.keep b
      clear b
      replace S := S.boxAt c.size (w2.heap.size) rfl #[.int .i64 0, .int .i64 0, .int .i64 0, .int .i64 0, .int .i64 0, .slice none 0 0] 25
      replace c := c.alloc c.size (.cells #[.int .i64 0, .int .i64 0, .int .i64 0, .int .i64 0, .int .i64 0, .slice none 0 0] 25)
      have f0 : (w2.alloc (.cells #[.int .i64 0, .int .i64 0, .int .i64 0, .int .i64 0, .int .i64 0, .slice none 0 0] 25)).cell? ⟨w2.heap.size, 0, none⟩ = some (.int .i64 0) := (S.at_ 0 rfl).cell 0
      have f1 := (S.at_ 0 rfl).free 0
      have f2 : (w2.alloc (.cells #[.int .i64 0, .int .i64 0, .int .i64 0, .int .i64 0, .int .i64 0, .slice none 0 0] 25)).cell? ⟨w2.heap.size, 1, none⟩ = some (.int .i64 0) := (S.at_ 0 rfl).cell 1
      have f3 := (S.at_ 0 rfl).free 1
      have f4 : (w2.alloc (.cells #[.int .i64 0, .int .i64 0, .int .i64 0, .int .i64 0, .int .i64 0, .slice none 0 0] 25)).cell? ⟨w2.heap.size, 2, none⟩ = some (.int .i64 0) := (S.at_ 0 rfl).cell 2
      have f5 := (S.at_ 0 rfl).free 2
      have f6 : (w2.alloc (.cells #[.int .i64 0, .int .i64 0, .int .i64 0, .int .i64 0, .int .i64 0, .slice none 0 0] 25)).cell? ⟨w2.heap.size, 3, none⟩ = some (.int .i64 0) := (S.at_ 0 rfl).cell 3
      have f7 := (S.at_ 0 rfl).free 3
      have f8 : (w2.alloc (.cells #[.int .i64 0, .int .i64 0, .int .i64 0, .int .i64 0, .int .i64 0, .slice none 0 0] 25)).cell? ⟨w2.heap.size, 4, none⟩ = some (.int .i64 0) := (S.at_ 0 rfl).cell 4
      have f9 := (S.at_ 0 rfl).free 4
      have f10 : (w2.alloc (.cells #[.int .i64 0, .int .i64 0, .int .i64 0, .int .i64 0, .int .i64 0, .slice none 0 0] 25)).cell? ⟨w2.heap.size, 5, none⟩ = some (.slice none 0 0) := (S.at_ 0 rfl).cell 5
      have f11 := (S.at_ 0 rfl).free 5
      have f12 : (w2.alloc (.cells #[.int .i64 0, .int .i64 0, .int .i64 0, .int .i64 0, .int .i64 0, .slice none 0 0] 25)).cell? ⟨w.heap.size, 0, none⟩ = some (.int .i64 0) := (S.at_ 1 rfl).cell 0
      have f13 := (S.at_ 1 rfl).free 0
      have f14 : (w2.alloc (.cells #[.int .i64 0, .int .i64 0, .int .i64 0, .int .i64 0, .int .i64 0, .slice none 0 0] 25)).cell? ⟨w.heap.size, 1, none⟩ = some (.int .i64 0) := (S.at_ 1 rfl).cell 1
      have f15 := (S.at_ 1 rfl).free 1
      have f16 : (w2.alloc (.cells #[.int .i64 0, .int .i64 0, .int .i64 0, .int .i64 0, .int .i64 0, .slice none 0 0] 25)).cell? ⟨w.heap.size, 2, none⟩ = some (.int .i64 0) := (S.at_ 1 rfl).cell 2
      have f17 := (S.at_ 1 rfl).free 2
      have f18 : (w2.alloc (.cells #[.int .i64 0, .int .i64 0, .int .i64 0, .int .i64 0, .int .i64 0, .slice none 0 0] 25)).cell? ⟨w.heap.size, 3, none⟩ = some (.int .i64 0) := (S.at_ 1 rfl).cell 3
      have f19 := (S.at_ 1 rfl).free 3
      have f20 : (w2.alloc (.cells #[.int .i64 0, .int .i64 0, .int .i64 0, .int .i64 0, .int .i64 0, .slice none 0 0] 25)).cell? ⟨w.heap.size, 4, none⟩ = some (.int .i64 0) := (S.at_ 1 rfl).cell 4
      have f21 := (S.at_ 1 rfl).free 4
      have f22 : (w2.alloc (.cells #[.int .i64 0, .int .i64 0, .int .i64 0, .int .i64 0, .int .i64 0, .slice none 0 0] 25)).cell? ⟨w.heap.size, 5, none⟩ = some (.slice none 0 0) := (S.at_ 1 rfl).cell 5
      have f23 := (S.at_ 1 rfl).free 5
      replace S := S.put 1 rfl 0 (.int .i64 0)
      replace c := c.setCell (p := ⟨w.heap.size, 0, none⟩) (by show w.heap.size ≤ w.heap.size; omega) (.int .i64 0)
      replace S := S.put 1 rfl 1 (.int .i64 0)
      replace c := c.setCell (p := ⟨w.heap.size, 1, none⟩) (by show w.heap.size ≤ w.heap.size; omega) (.int .i64 0)
      replace S := S.put 1 rfl 2 (.int .i64 0)
      replace c := c.setCell (p := ⟨w.heap.size, 2, none⟩) (by show w.heap.size ≤ w.heap.size; omega) (.int .i64 0)
      replace S := S.put 1 rfl 3 (.int .i64 0)
      replace c := c.setCell (p := ⟨w.heap.size, 3, none⟩) (by show w.heap.size ≤ w.heap.size; omega) (.int .i64 0)
      replace S := S.put 1 rfl 4 (.int .i64 0)
      replace c := c.setCell (p := ⟨w.heap.size, 4, none⟩) (by show w.heap.size ≤ w.heap.size; omega) (.int .i64 0)
      replace S := S.put 1 rfl 5 (.slice none 0 0)
      replace c := c.setCell (p := ⟨w.heap.size, 5, none⟩) (by show w.heap.size ≤ w.heap.size; omega) (.slice none 0 0)
      have r0 := Lib.hid (show (((((((w2.alloc (.cells #[.int .i64 0, .int .i64 0, .int .i64 0, .int .i64 0, .int .i64 0, .slice none 0 0] 25)).setCell ⟨w.heap.size, 0, none⟩ (.int .i64 0)).setCell ⟨w.heap.size, 1, none⟩ (.int .i64 0)).setCell ⟨w.heap.size, 2, none⟩ (.int .i64 0)).setCell ⟨w.heap.size, 3, none⟩ (.int .i64 0)).setCell ⟨w.heap.size, 4, none⟩ (.int .i64 0)).setCell ⟨w.heap.size, 5, none⟩ (.slice none 0 0)).cell? ⟨w.heap.size, 0, none⟩ = some (.int .i64 0) from (S.at_ 1 rfl).cell 0)
      have r1 := Lib.hid (show (((((((w2.alloc (.cells #[.int .i64 0, .int .i64 0, .int .i64 0, .int .i64 0, .int .i64 0, .slice none 0 0] 25)).setCell ⟨w.heap.size, 0, none⟩ (.int .i64 0)).setCell ⟨w.heap.size, 1, none⟩ (.int .i64 0)).setCell ⟨w.heap.size, 2, none⟩ (.int .i64 0)).setCell ⟨w.heap.size, 3, none⟩ (.int .i64 0)).setCell ⟨w.heap.size, 4, none⟩ (.int .i64 0)).setCell ⟨w.heap.size, 5, none⟩ (.slice none 0 0)).cell? ⟨w.heap.size, 1, none⟩ = some (.int .i64 0) from (S.at_ 1 rfl).cell 1)
      have r2 := Lib.hid (show (((((((w2.alloc (.cells #[.int .i64 0, .int .i64 0, .int .i64 0, .int .i64 0, .int .i64 0, .slice none 0 0] 25)).setCell ⟨w.heap.size, 0, none⟩ (.int .i64 0)).setCell ⟨w.heap.size, 1, none⟩ (.int .i64 0)).setCell ⟨w.heap.size, 2, none⟩ (.int .i64 0)).setCell ⟨w.heap.size, 3, none⟩ (.int .i64 0)).setCell ⟨w.heap.size, 4, none⟩ (.int .i64 0)).setCell ⟨w.heap.size, 5, none⟩ (.slice none 0 0)).cell? ⟨w.heap.size, 2, none⟩ = some (.int .i64 0) from (S.at_ 1 rfl).cell 2)
      have r3 := Lib.hid (show (((((((w2.alloc (.cells #[.int .i64 0, .int .i64 0, .int .i64 0, .int .i64 0, .int .i64 0, .slice none 0 0] 25)).setCell ⟨w.heap.size, 0, none⟩ (.int .i64 0)).setCell ⟨w.heap.size, 1, none⟩ (.int .i64 0)).setCell ⟨w.heap.size, 2, none⟩ (.int .i64 0)).setCell ⟨w.heap.size, 3, none⟩ (.int .i64 0)).setCell ⟨w.heap.size, 4, none⟩ (.int .i64 0)).setCell ⟨w.heap.size, 5, none⟩ (.slice none 0 0)).cell? ⟨w.heap.size, 3, none⟩ = some (.int .i64 0) from (S.at_ 1 rfl).cell 3)
      have r4 := Lib.hid (show (((((((w2.alloc (.cells #[.int .i64 0, .int .i64 0, .int .i64 0, .int .i64 0, .int .i64 0, .slice none 0 0] 25)).setCell ⟨w.heap.size, 0, none⟩ (.int .i64 0)).setCell ⟨w.heap.size, 1, none⟩ (.int .i64 0)).setCell ⟨w.heap.size, 2, none⟩ (.int .i64 0)).setCell ⟨w.heap.size, 3, none⟩ (.int .i64 0)).setCell ⟨w.heap.size, 4, none⟩ (.int .i64 0)).setCell ⟨w.heap.size, 5, none⟩ (.slice none 0 0)).cell? ⟨w.heap.size, 4, none⟩ = some (.int .i64 0) from (S.at_ 1 rfl).cell 4)
      have r5 := Lib.hid (show (((((((w2.alloc (.cells #[.int .i64 0, .int .i64 0, .int .i64 0, .int .i64 0, .int .i64 0, .slice none 0 0] 25)).setCell ⟨w.heap.size, 0, none⟩ (.int .i64 0)).setCell ⟨w.heap.size, 1, none⟩ (.int .i64 0)).setCell ⟨w.heap.size, 2, none⟩ (.int .i64 0)).setCell ⟨w.heap.size, 3, none⟩ (.int .i64 0)).setCell ⟨w.heap.size, 4, none⟩ (.int .i64 0)).setCell ⟨w.heap.size, 5, none⟩ (.slice none 0 0)).cell? ⟨w.heap.size, 5, none⟩ = some (.slice none 0 0) from (S.at_ 1 rfl).cell 5)
      have CC := Lib.hid c
      clear S c
      go_wp2
      exact bodyPost_ret (v := .tuple #[.agg #[.int .i64 0, .int .i64 0, .int .i64 0, .int .i64 0, .int .i64 0, .slice none 0 0], .bool false]) (by simp [results, Try.results9, go_sem, r0.out, r1.out, r2.out, r3.out, r4.out, r5.out]) rfl ⟨0, 0, 0, 0, 0, none, 0, 0, by rw [HEO.out] <;> rfl, by rw [HEO.out]; exact Has.int (Has.int (Has.int (Has.int (Has.int (has_nil_djs _ _))))), CC.out⟩
    · rw [ho] at hv
      have HEO := Lib.hid ho
      clear ho
      obtain ⟨u, hu⟩ : ∃ u, v = .iface 97 u := ⟨_, hv⟩
      subst hu
      clear hv
      have q1 : ∀ w9, (Instr.typeAssert (.iface 97 u) 87 25 true).run Try.prog w9 = .ok (.tuple #[.agg #[.int .i64 0, .int .i64 0, .int .i64 0, .int .i64 0, .int .i64 0, .slice none 0 0], .bool false]) w9 := fun _ => by kernel_rfl
      replace c := c.trans (b.mono c.size)
      replace S := S.keep b
      clear b
      replace S := S.boxAt c.size (w2.heap.size) rfl #[.int .i64 0, .int .i64 0, .int .i64 0, .int .i64 0, .int .i64 0, .slice none 0 0] 25
      replace c := c.alloc c.size (.cells #[.int .i64 0, .int .i64 0, .int .i64 0, .int .i64 0, .int .i64 0, .slice none 0 0] 25)
      have f0 : (w2.alloc (.cells #[.int .i64 0, .int .i64 0, .int .i64 0, .int .i64 0, .int .i64 0, .slice none 0 0] 25)).cell? ⟨w2.heap.size, 0, none⟩ = some (.int .i64 0) := (S.at_ 0 rfl).cell 0
      have f1 := (S.at_ 0 rfl).free 0
      have f2 : (w2.alloc (.cells #[.int .i64 0, .int .i64 0, .int .i64 0, .int .i64 0, .int .i64 0, .slice none 0 0] 25)).cell? ⟨w2.heap.size, 1, none⟩ = some (.int .i64 0) := (S.at_ 0 rfl).cell 1
      have f3 := (S.at_ 0 rfl).free 1
      have f4 : (w2.alloc (.cells #[.int .i64 0, .int .i64 0, .int .i64 0, .int .i64 0, .int .i64 0, .slice none 0 0] 25)).cell? ⟨w2.heap.size, 2, none⟩ = some (.int .i64 0) := (S.at_ 0 rfl).cell 2
      have f5 := (S.at_ 0 rfl).free 2
      have f6 : (w2.alloc (.cells #[.int .i64 0, .int .i64 0, .int .i64 0, .int .i64 0, .int .i64 0, .slice none 0 0] 25)).cell? ⟨w2.heap.size, 3, none⟩ = some (.int .i64 0) := (S.at_ 0 rfl).cell 3
      have f7 := (S.at_ 0 rfl).free 3
      have f8 : (w2.alloc (.cells #[.int .i64 0, .int .i64 0, .int .i64 0, .int .i64 0, .int .i64 0, .slice none 0 0] 25)).cell? ⟨w2.heap.size, 4, none⟩ = some (.int .i64 0) := (S.at_ 0 rfl).cell 4
      have f9 := (S.at_ 0 rfl).free 4
      have f10 : (w2.alloc (.cells #[.int .i64 0, .int .i64 0, .int .i64 0, .int .i64 0, .int .i64 0, .slice none 0 0] 25)).cell? ⟨w2.heap.size, 5, none⟩ = some (.slice none 0 0) := (S.at_ 0 rfl).cell 5
      have f11 := (S.at_ 0 rfl).free 5
      have f12 : (w2.alloc (.cells #[.int .i64 0, .int .i64 0, .int .i64 0, .int .i64 0, .int .i64 0, .slice none 0 0] 25)).cell? ⟨w.heap.size, 0, none⟩ = some (.int .i64 0) := (S.at_ 1 rfl).cell 0
      have f13 := (S.at_ 1 rfl).free 0
      have f14 : (w2.alloc (.cells #[.int .i64 0, .int .i64 0, .int .i64 0, .int .i64 0, .int .i64 0, .slice none 0 0] 25)).cell? ⟨w.heap.size, 1, none⟩ = some (.int .i64 0) := (S.at_ 1 rfl).cell 1
      have f15 := (S.at_ 1 rfl).free 1
      have f16 : (w2.alloc (.cells #[.int .i64 0, .int .i64 0, .int .i64 0, .int .i64 0, .int .i64 0, .slice none 0 0] 25)).cell? ⟨w.heap.size, 2, none⟩ = some (.int .i64 0) := (S.at_ 1 rfl).cell 2
      have f17 := (S.at_ 1 rfl).free 2
      have f18 : (w2.alloc (.cells #[.int .i64 0, .int .i64 0, .int .i64 0, .int .i64 0, .int .i64 0, .slice none 0 0] 25)).cell? ⟨w.heap.size, 3, none⟩ = some (.int .i64 0) := (S.at_ 1 rfl).cell 3
      have f19 := (S.at_ 1 rfl).free 3
      have f20 : (w2.alloc (.cells #[.int .i64 0, .int .i64 0, .int .i64 0, .int .i64 0, .int .i64 0, .slice none 0 0] 25)).cell? ⟨w.heap.size, 4, none⟩ = some (.int .i64 0) := (S.at_ 1 rfl).cell 4
      have f21 := (S.at_ 1 rfl).free 4
      have f22 : (w2.alloc (.cells #[.int .i64 0, .int .i64 0, .int .i64 0, .int .i64 0, .int .i64 0, .slice none 0 0] 25)).cell? ⟨w.heap.size, 5, none⟩ = some (.slice none 0 0) := (S.at_ 1 rfl).cell 5
      have f23 := (S.at_ 1 rfl).free 5
      replace S := S.put 1 rfl 0 (.int .i64 0)
      replace c := c.setCell (p := ⟨w.heap.size, 0, none⟩) (by show w.heap.size ≤ w.heap.size; omega) (.int .i64 0)
      replace S := S.put 1 rfl 1 (.int .i64 0)
      replace c := c.setCell (p := ⟨w.heap.size, 1, none⟩) (by show w.heap.size ≤ w.heap.size; omega) (.int .i64 0)
      replace S := S.put 1 rfl 2 (.int .i64 0)
      replace c := c.setCell (p := ⟨w.heap.size, 2, none⟩) (by show w.heap.size ≤ w.heap.size; omega) (.int .i64 0)
      replace S := S.put 1 rfl 3 (.int .i64 0)
      replace c := c.setCell (p := ⟨w.heap.size, 3, none⟩) (by show w.heap.size ≤ w.heap.size; omega) (.int .i64 0)
      replace S := S.put 1 rfl 4 (.int .i64 0)
      replace c := c.setCell (p := ⟨w.heap.size, 4, none⟩) (by show w.heap.size ≤ w.heap.size; omega) (.int .i64 0)
      replace S := S.put 1 rfl 5 (.slice none 0 0)
      replace c := c.setCell (p := ⟨w.heap.size, 5, none⟩) (by show w.heap.size ≤ w.heap.size; omega) (.slice none 0 0)
      have r0 := Lib.hid (show (((((((w2.alloc (.cells #[.int .i64 0, .int .i64 0, .int .i64 0, .int .i64 0, .int .i64 0, .slice none 0 0] 25)).setCell ⟨w.heap.size, 0, none⟩ (.int .i64 0)).setCell ⟨w.heap.size, 1, none⟩ (.int .i64 0)).setCell ⟨w.heap.size, 2, none⟩ (.int .i64 0)).setCell ⟨w.heap.size, 3, none⟩ (.int .i64 0)).setCell ⟨w.heap.size, 4, none⟩ (.int .i64 0)).setCell ⟨w.heap.size, 5, none⟩ (.slice none 0 0)).cell? ⟨w.heap.size, 0, none⟩ = some (.int .i64 0) from (S.at_ 1 rfl).cell 0)
      have r1 := Lib.hid (show (((((((w2.alloc (.cells #[.int .i64 0, .int .i64 0, .int .i64 0, .int .i64 0, .int .i64 0, .slice none 0 0] 25)).setCell ⟨w.heap.size, 0, none⟩ (.int .i64 0)).setCell ⟨w.heap.size, 1, none⟩ (.int .i64 0)).setCell ⟨w.heap.size, 2, none⟩ (.int .i64 0)).setCell ⟨w.heap.size, 3, none⟩ (.int .i64 0)).setCell ⟨w.heap.size, 4, none⟩ (.int .i64 0)).setCell ⟨w.heap.size, 5, none⟩ (.slice none 0 0)).cell? ⟨w.heap.size, 1, none⟩ = some (.int .i64 0) from (S.at_ 1 rfl).cell 1)
      have r2 := Lib.hid (show (((((((w2.alloc (.cells #[.int .i64 0, .int .i64 0, .int .i64 0, .int .i64 0, .int .i64 0, .slice none 0 0] 25)).setCell ⟨w.heap.size, 0, none⟩ (.int .i64 0)).setCell ⟨w.heap.size, 1, none⟩ (.int .i64 0)).setCell ⟨w.heap.size, 2, none⟩ (.int .i64 0)).setCell ⟨w.heap.size, 3, none⟩ (.int .i64 0)).setCell ⟨w.heap.size, 4, none⟩ (.int .i64 0)).setCell ⟨w.heap.size, 5, none⟩ (.slice none 0 0)).cell? ⟨w.heap.size, 2, none⟩ = some (.int .i64 0) from (S.at_ 1 rfl).cell 2)
      have r3 := Lib.hid (show (((((((w2.alloc (.cells #[.int .i64 0, .int .i64 0, .int .i64 0, .int .i64 0, .int .i64 0, .slice none 0 0] 25)).setCell ⟨w.heap.size, 0, none⟩ (.int .i64 0)).setCell ⟨w.heap.size, 1, none⟩ (.int .i64 0)).setCell ⟨w.heap.size, 2, none⟩ (.int .i64 0)).setCell ⟨w.heap.size, 3, none⟩ (.int .i64 0)).setCell ⟨w.heap.size, 4, none⟩ (.int .i64 0)).setCell ⟨w.heap.size, 5, none⟩ (.slice none 0 0)).cell? ⟨w.heap.size, 3, none⟩ = some (.int .i64 0) from (S.at_ 1 rfl).cell 3)
      have r4 := Lib.hid (show (((((((w2.alloc (.cells #[.int .i64 0, .int .i64 0, .int .i64 0, .int .i64 0, .int .i64 0, .slice none 0 0] 25)).setCell ⟨w.heap.size, 0, none⟩ (.int .i64 0)).setCell ⟨w.heap.size, 1, none⟩ (.int .i64 0)).setCell ⟨w.heap.size, 2, none⟩ (.int .i64 0)).setCell ⟨w.heap.size, 3, none⟩ (.int .i64 0)).setCell ⟨w.heap.size, 4, none⟩ (.int .i64 0)).setCell ⟨w.heap.size, 5, none⟩ (.slice none 0 0)).cell? ⟨w.heap.size, 4, none⟩ = some (.int .i64 0) from (S.at_ 1 rfl).cell 4)
      have r5 := Lib.hid (show (((((((w2.alloc (.cells #[.int .i64 0, .int .i64 0, .int .i64 0, .int .i64 0, .int .i64 0, .slice none 0 0] 25)).setCell ⟨w.heap.size, 0, none⟩ (.int .i64 0)).setCell ⟨w.heap.size, 1, none⟩ (.int .i64 0)).setCell ⟨w.heap.size, 2, none⟩ (.int .i64 0)).setCell ⟨w.heap.size, 3, none⟩ (.int .i64 0)).setCell ⟨w.heap.size, 4, none⟩ (.int .i64 0)).setCell ⟨w.heap.size, 5, none⟩ (.slice none 0 0)).cell? ⟨w.heap.size, 5, none⟩ = some (.slice none 0 0) from (S.at_ 1 rfl).cell 5)
      have CC := Lib.hid c
      clear S c
      go_wp2
      exact bodyPost_ret (v := .tuple #[.agg #[.int .i64 0, .int .i64 0, .int .i64 0, .int .i64 0, .int .i64 0, .slice none 0 0], .bool false]) (by simp [results, Try.results9, go_sem, r0.out, r1.out, r2.out, r3.out, r4.out, r5.out]) rfl ⟨0, 0, 0, 0, 0, none, 0, 0, by rw [HEO.out] <;> rfl, by rw [HEO.out]; exact Has.int (Has.int (Has.int (Has.int (Has.int (has_nil_djs _ _))))), CC.out⟩
    · rw [ho] at hv
      have HEO := Lib.hid ho
      clear ho
      obtain ⟨_, _, _, hv, _⟩ := hv
      obtain ⟨u, hu⟩ : ∃ u, v = .iface 56 u := ⟨_, hv⟩
      subst hu
      clear hv
      have q1 : ∀ w9, (Instr.typeAssert (.iface 56 u) 87 25 true).run Try.prog w9 = .ok (.tuple #[.agg #[.int .i64 0, .int .i64 0, .int .i64 0, .int .i64 0, .int .i64 0, .slice none 0 0], .bool false]) w9 := fun _ => by kernel_rfl
      replace c := c.trans (b.mono c.size)
      replace S := S.keep b
      clear b
      replace S := S.boxAt c.size (w2.heap.size) rfl #[.int .i64 0, .int .i64 0, .int .i64 0, .int .i64 0, .int .i64 0, .slice none 0 0] 25
      replace c := c.alloc c.size (.cells #[.int .i64 0, .int .i64 0, .int .i64 0, .int .i64 0, .int .i64 0, .slice none 0 0] 25)
      have f0 : (w2.alloc (.cells #[.int .i64 0, .int .i64 0, .int .i64 0, .int .i64 0, .int .i64 0, .slice none 0 0] 25)).cell? ⟨w2.heap.size, 0, none⟩ = some (.int .i64 0) := (S.at_ 0 rfl).cell 0
      have f1 := (S.at_ 0 rfl).free 0
      have f2 : (w2.alloc (.cells #[.int .i64 0, .int .i64 0, .int .i64 0, .int .i64 0, .int .i64 0, .slice none 0 0] 25)).cell? ⟨w2.heap.size, 1, none⟩ = some (.int .i64 0) := (S.at_ 0 rfl).cell 1
      have f3 := (S.at_ 0 rfl).free 1
      have f4 : (w2.alloc (.cells #[.int .i64 0, .int .i64 0, .int .i64 0, .int .i64 0, .int .i64 0, .slice none 0 0] 25)).cell? ⟨w2.heap.size, 2, none⟩ = some (.int .i64 0) := (S.at_ 0 rfl).cell 2
      have f5 := (S.at_ 0 rfl).free 2
      have f6 : (w2.alloc (.cells #[.int .i64 0, .int .i64 0, .int .i64 0, .int .i64 0, .int .i64 0, .slice none 0 0] 25)).cell? ⟨w2.heap.size, 3, none⟩ = some (.int .i64 0) := (S.at_ 0 rfl).cell 3
      have f7 := (S.at_ 0 rfl).free 3
      have f8 : (w2.alloc (.cells #[.int .i64 0, .int .i64 0, .int .i64 0, .int .i64 0, .int .i64 0, .slice none 0 0] 25)).cell? ⟨w2.heap.size, 4, none⟩ = some (.int .i64 0) := (S.at_ 0 rfl).cell 4
      have f9 := (S.at_ 0 rfl).free 4
      have f10 : (w2.alloc (.cells #[.int .i64 0, .int .i64 0, .int .i64 0, .int .i64 0, .int .i64 0, .slice none 0 0] 25)).cell? ⟨w2.heap.size, 5, none⟩ = some (.slice none 0 0) := (S.at_ 0 rfl).cell 5
      have f11 := (S.at_ 0 rfl).free 5
      have f12 : (w2.alloc (.cells #[.int .i64 0, .int .i64 0, .int .i64 0, .int .i64 0, .int .i64 0, .slice none 0 0] 25)).cell? ⟨w.heap.size, 0, none⟩ = some (.int .i64 0) := (S.at_ 1 rfl).cell 0
      have f13 := (S.at_ 1 rfl).free 0
      have f14 : (w2.alloc (.cells #[.int .i64 0, .int .i64 0, .int .i64 0, .int .i64 0, .int .i64 0, .slice none 0 0] 25)).cell? ⟨w.heap.size, 1, none⟩ = some (.int .i64 0) := (S.at_ 1 rfl).cell 1
      have f15 := (S.at_ 1 rfl).free 1
      have f16 : (w2.alloc (.cells #[.int .i64 0, .int .i64 0, .int .i64 0, .int .i64 0, .int .i64 0, .slice none 0 0] 25)).cell? ⟨w.heap.size, 2, none⟩ = some (.int .i64 0) := (S.at_ 1 rfl).cell 2
      have f17 := (S.at_ 1 rfl).free 2
      have f18 : (w2.alloc (.cells #[.int .i64 0, .int .i64 0, .int .i64 0, .int .i64 0, .int .i64 0, .slice none 0 0] 25)).cell? ⟨w.heap.size, 3, none⟩ = some (.int .i64 0) := (S.at_ 1 rfl).cell 3
      have f19 := (S.at_ 1 rfl).free 3
      have f20 : (w2.alloc (.cells #[.int .i64 0, .int .i64 0, .int .i64 0, .int .i64 0, .int .i64 0, .slice none 0 0] 25)).cell? ⟨w.heap.size, 4, none⟩ = some (.int .i64 0) := (S.at_ 1 rfl).cell 4
      have f21 := (S.at_ 1 rfl).free 4
      have f22 : (w2.alloc (.cells #[.int .i64 0, .int .i64 0, .int .i64 0, .int .i64 0, .int .i64 0, .slice none 0 0] 25)).cell? ⟨w.heap.size, 5, none⟩ = some (.slice none 0 0) := (S.at_ 1 rfl).cell 5
      have f23 := (S.at_ 1 rfl).free 5
      replace S := S.put 1 rfl 0 (.int .i64 0)
      replace c := c.setCell (p := ⟨w.heap.size, 0, none⟩) (by show w.heap.size ≤ w.heap.size; omega) (.int .i64 0)
      replace S := S.put 1 rfl 1 (.int .i64 0)
      replace c := c.setCell (p := ⟨w.heap.size, 1, none⟩) (by show w.heap.size ≤ w.heap.size; omega) (.int .i64 0)
      replace S := S.put 1 rfl 2 (.int .i64 0)
      replace c := c.setCell (p := ⟨w.heap.size, 2, none⟩) (by show w.heap.size ≤ w.heap.size; omega) (.int .i64 0)
      replace S := S.put 1 rfl 3 (.int .i64 0)
      replace c := c.setCell (p := ⟨w.heap.size, 3, none⟩) (by show w.heap.size ≤ w.heap.size; omega) (.int .i64 0)
      replace S := S.put 1 rfl 4 (.int .i64 0)
      replace c := c.setCell (p := ⟨w.heap.size, 4, none⟩) (by show w.heap.size ≤ w.heap.size; omega) (.int .i64 0)
      replace S := S.put 1 rfl 5 (.slice none 0 0)
      replace c := c.setCell (p := ⟨w.heap.size, 5, none⟩) (by show w.heap.size ≤ w.heap.size; omega) (.slice none 0 0)
      have r0 := Lib.hid (show (((((((w2.alloc (.cells #[.int .i64 0, .int .i64 0, .int .i64 0, .int .i64 0, .int .i64 0, .slice none 0 0] 25)).setCell ⟨w.heap.size, 0, none⟩ (.int .i64 0)).setCell ⟨w.heap.size, 1, none⟩ (.int .i64 0)).setCell ⟨w.heap.size, 2, none⟩ (.int .i64 0)).setCell ⟨w.heap.size, 3, none⟩ (.int .i64 0)).setCell ⟨w.heap.size, 4, none⟩ (.int .i64 0)).setCell ⟨w.heap.size, 5, none⟩ (.slice none 0 0)).cell? ⟨w.heap.size, 0, none⟩ = some (.int .i64 0) from (S.at_ 1 rfl).cell 0)
      have r1 := Lib.hid (show (((((((w2.alloc (.cells #[.int .i64 0, .int .i64 0, .int .i64 0, .int .i64 0, .int .i64 0, .slice none 0 0] 25)).setCell ⟨w.heap.size, 0, none⟩ (.int .i64 0)).setCell ⟨w.heap.size, 1, none⟩ (.int .i64 0)).setCell ⟨w.heap.size, 2, none⟩ (.int .i64 0)).setCell ⟨w.heap.size, 3, none⟩ (.int .i64 0)).setCell ⟨w.heap.size, 4, none⟩ (.int .i64 0)).setCell ⟨w.heap.size, 5, none⟩ (.slice none 0 0)).cell? ⟨w.heap.size, 1, none⟩ = some (.int .i64 0) from (S.at_ 1 rfl).cell 1)
      have r2 := Lib.hid (show (((((((w2.alloc (.cells #[.int .i64 0, .int .i64 0, .int .i64 0, .int .i64 0, .int .i64 0, .slice none 0 0] 25)).setCell ⟨w.heap.size, 0, none⟩ (.int .i64 0)).setCell ⟨w.heap.size, 1, none⟩ (.int .i64 0)).setCell ⟨w.heap.size, 2, none⟩ (.int .i64 0)).setCell ⟨w.heap.size, 3, none⟩ (.int .i64 0)).setCell ⟨w.heap.size, 4, none⟩ (.int .i64 0)).setCell ⟨w.heap.size, 5, none⟩ (.slice none 0 0)).cell? ⟨w.heap.size, 2, none⟩ = some (.int .i64 0) from (S.at_ 1 rfl).cell 2)
      have r3 := Lib.hid (show (((((((w2.alloc (.cells #[.int .i64 0, .int .i64 0, .int .i64 0, .int .i64 0, .int .i64 0, .slice none 0 0] 25)).setCell ⟨w.heap.size, 0, none⟩ (.int .i64 0)).setCell ⟨w.heap.size, 1, none⟩ (.int .i64 0)).setCell ⟨w.heap.size, 2, none⟩ (.int .i64 0)).setCell ⟨w.heap.size, 3, none⟩ (.int .i64 0)).setCell ⟨w.heap.size, 4, none⟩ (.int .i64 0)).setCell ⟨w.heap.size, 5, none⟩ (.slice none 0 0)).cell? ⟨w.heap.size, 3, none⟩ = some (.int .i64 0) from (S.at_ 1 rfl).cell 3)
      have r4 := Lib.hid (show (((((((w2.alloc (.cells #[.int .i64 0, .int .i64 0, .int .i64 0, .int .i64 0, .int .i64 0, .slice none 0 0] 25)).setCell ⟨w.heap.size, 0, none⟩ (.int .i64 0)).setCell ⟨w.heap.size, 1, none⟩ (.int .i64 0)).setCell ⟨w.heap.size, 2, none⟩ (.int .i64 0)).setCell ⟨w.heap.size, 3, none⟩ (.int .i64 0)).setCell ⟨w.heap.size, 4, none⟩ (.int .i64 0)).setCell ⟨w.heap.size, 5, none⟩ (.slice none 0 0)).cell? ⟨w.heap.size, 4, none⟩ = some (.int .i64 0) from (S.at_ 1 rfl).cell 4)
      have r5 := Lib.hid (show (((((((w2.alloc (.cells #[.int .i64 0, .int .i64 0, .int .i64 0, .int .i64 0, .int .i64 0, .slice none 0 0] 25)).setCell ⟨w.heap.size, 0, none⟩ (.int .i64 0)).setCell ⟨w.heap.size, 1, none⟩ (.int .i64 0)).setCell ⟨w.heap.size, 2, none⟩ (.int .i64 0)).setCell ⟨w.heap.size, 3, none⟩ (.int .i64 0)).setCell ⟨w.heap.size, 4, none⟩ (.int .i64 0)).setCell ⟨w.heap.size, 5, none⟩ (.slice none 0 0)).cell? ⟨w.heap.size, 5, none⟩ = some (.slice none 0 0) from (S.at_ 1 rfl).cell 5)
      have CC := Lib.hid c
      clear S c
      go_wp2
      exact bodyPost_ret (v := .tuple #[.agg #[.int .i64 0, .int .i64 0, .int .i64 0, .int .i64 0, .int .i64 0, .slice none 0 0], .bool false]) (by simp [results, Try.results9, go_sem, r0.out, r1.out, r2.out, r3.out, r4.out, r5.out]) rfl ⟨0, 0, 0, 0, 0, none, 0, 0, by rw [HEO.out] <;> rfl, by rw [HEO.out]; exact Has.int (Has.int (Has.int (Has.int (Has.int (has_nil_djs _ _))))), CC.out⟩
    · rw [ho] at hv
      have HEO := Lib.hid ho
      clear ho
      obtain ⟨u, hu⟩ : ∃ u, v = .iface 99 u := ⟨_, hv⟩
      subst hu
      clear hv
      have q1 : ∀ w9, (Instr.typeAssert (.iface 99 u) 87 25 true).run Try.prog w9 = .ok (.tuple #[.agg #[.int .i64 0, .int .i64 0, .int .i64 0, .int .i64 0, .int .i64 0, .slice none 0 0], .bool false]) w9 := fun _ => by kernel_rfl
      replace c := c.trans (b.mono c.size)
      replace S := S.keep b
      clear b
      replace S := S.boxAt c.size (w2.heap.size) rfl #[.int .i64 0, .int .i64 0, .int .i64 0, .int .i64 0, .int .i64 0, .slice none 0 0] 25
      replace c := c.alloc c.size (.cells #[.int .i64 0, .int .i64 0, .int .i64 0, .int .i64 0, .int .i64 0, .slice none 0 0] 25)
      have f0 : (w2.alloc (.cells #[.int .i64 0, .int .i64 0, .int .i64 0, .int .i64 0, .int .i64 0, .slice none 0 0] 25)).cell? ⟨w2.heap.size, 0, none⟩ = some (.int .i64 0) := (S.at_ 0 rfl).cell 0
      have f1 := (S.at_ 0 rfl).free 0
      have f2 : (w2.alloc (.cells #[.int .i64 0, .int .i64 0, .int .i64 0, .int .i64 0, .int .i64 0, .slice none 0 0] 25)).cell? ⟨w2.heap.size, 1, none⟩ = some (.int .i64 0) := (S.at_ 0 rfl).cell 1
      have f3 := (S.at_ 0 rfl).free 1
      have f4 : (w2.alloc (.cells #[.int .i64 0, .int .i64 0, .int .i64 0, .int .i64 0, .int .i64 0, .slice none 0 0] 25)).cell? ⟨w2.heap.size, 2, none⟩ = some (.int .i64 0) := (S.at_ 0 rfl).cell 2
      have f5 := (S.at_ 0 rfl).free 2
      have f6 : (w2.alloc (.cells #[.int .i64 0, .int .i64 0, .int .i64 0, .int .i64 0, .int .i64 0, .slice none 0 0] 25)).cell? ⟨w2.heap.size, 3, none⟩ = some (.int .i64 0) := (S.at_ 0 rfl).cell 3
      have f7 := (S.at_ 0 rfl).free 3
      have f8 : (w2.alloc (.cells #[.int .i64 0, .int .i64 0, .int .i64 0, .int .i64 0, .int .i64 0, .slice none 0 0] 25)).cell? ⟨w2.heap.size, 4, none⟩ = some (.int .i64 0) := (S.at_ 0 rfl).cell 4
      have f9 := (S.at_ 0 rfl).free 4
      have f10 : (w2.alloc (.cells #[.int .i64 0, .int .i64 0, .int .i64 0, .int .i64 0, .int .i64 0, .slice none 0 0] 25)).cell? ⟨w2.heap.size, 5, none⟩ = some (.slice none 0 0) := (S.at_ 0 rfl).cell 5
      have f11 := (S.at_ 0 rfl).free 5
      have f12 : (w2.alloc (.cells #[.int .i64 0, .int .i64 0, .int .i64 0, .int .i64 0, .int .i64 0, .slice none 0 0] 25)).cell? ⟨w.heap.size, 0, none⟩ = some (.int .i64 0) := (S.at_ 1 rfl).cell 0
      have f13 := (S.at_ 1 rfl).free 0
      have f14 : (w2.alloc (.cells #[.int .i64 0, .int .i64 0, .int .i64 0, .int .i64 0, .int .i64 0, .slice none 0 0] 25)).cell? ⟨w.heap.size, 1, none⟩ = some (.int .i64 0) := (S.at_ 1 rfl).cell 1
      have f15 := (S.at_ 1 rfl).free 1
      have f16 : (w2.alloc (.cells #[.int .i64 0, .int .i64 0, .int .i64 0, .int .i64 0, .int .i64 0, .slice none 0 0] 25)).cell? ⟨w.heap.size, 2, none⟩ = some (.int .i64 0) := (S.at_ 1 rfl).cell 2
      have f17 := (S.at_ 1 rfl).free 2
      have f18 : (w2.alloc (.cells #[.int .i64 0, .int .i64 0, .int .i64 0, .int .i64 0, .int .i64 0, .slice none 0 0] 25)).cell? ⟨w.heap.size, 3, none⟩ = some (.int .i64 0) := (S.at_ 1 rfl).cell 3
      have f19 := (S.at_ 1 rfl).free 3
      have f20 : (w2.alloc (.cells #[.int .i64 0, .int .i64 0, .int .i64 0, .int .i64 0, .int .i64 0, .slice none 0 0] 25)).cell? ⟨w.heap.size, 4, none⟩ = some (.int .i64 0) := (S.at_ 1 rfl).cell 4
      have f21 := (S.at_ 1 rfl).free 4
      have f22 : (w2.alloc (.cells #[.int .i64 0, .int .i64 0, .int .i64 0, .int .i64 0, .int .i64 0, .slice none 0 0] 25)).cell? ⟨w.heap.size, 5, none⟩ = some (.slice none 0 0) := (S.at_ 1 rfl).cell 5
      have f23 := (S.at_ 1 rfl).free 5
      replace S := S.put 1 rfl 0 (.int .i64 0)
      replace c := c.setCell (p := ⟨w.heap.size, 0, none⟩) (by show w.heap.size ≤ w.heap.size; omega) (.int .i64 0)
      replace S := S.put 1 rfl 1 (.int .i64 0)
      replace c := c.setCell (p := ⟨w.heap.size, 1, none⟩) (by show w.heap.size ≤ w.heap.size; omega) (.int .i64 0)
      replace S := S.put 1 rfl 2 (.int .i64 0)
      replace c := c.setCell (p := ⟨w.heap.size, 2, none⟩) (by show w.heap.size ≤ w.heap.size; omega) (.int .i64 0)
      replace S := S.put 1 rfl 3 (.int .i64 0)
      replace c := c.setCell (p := ⟨w.heap.size, 3, none⟩) (by show w.heap.size ≤ w.heap.size; omega) (.int .i64 0)
      replace S := S.put 1 rfl 4 (.int .i64 0)
      replace c := c.setCell (p := ⟨w.heap.size, 4, none⟩) (by show w.heap.size ≤ w.heap.size; omega) (.int .i64 0)
      replace S := S.put 1 rfl 5 (.slice none 0 0)
      replace c := c.setCell (p := ⟨w.heap.size, 5, none⟩) (by show w.heap.size ≤ w.heap.size; omega) (.slice none 0 0)
      have r0 := Lib.hid (show (((((((w2.alloc (.cells #[.int .i64 0, .int .i64 0, .int .i64 0, .int .i64 0, .int .i64 0, .slice none 0 0] 25)).setCell ⟨w.heap.size, 0, none⟩ (.int .i64 0)).setCell ⟨w.heap.size, 1, none⟩ (.int .i64 0)).setCell ⟨w.heap.size, 2, none⟩ (.int .i64 0)).setCell ⟨w.heap.size, 3, none⟩ (.int .i64 0)).setCell ⟨w.heap.size, 4, none⟩ (.int .i64 0)).setCell ⟨w.heap.size, 5, none⟩ (.slice none 0 0)).cell? ⟨w.heap.size, 0, none⟩ = some (.int .i64 0) from (S.at_ 1 rfl).cell 0)
      have r1 := Lib.hid (show (((((((w2.alloc (.cells #[.int .i64 0, .int .i64 0, .int .i64 0, .int .i64 0, .int .i64 0, .slice none 0 0] 25)).setCell ⟨w.heap.size, 0, none⟩ (.int .i64 0)).setCell ⟨w.heap.size, 1, none⟩ (.int .i64 0)).setCell ⟨w.heap.size, 2, none⟩ (.int .i64 0)).setCell ⟨w.heap.size, 3, none⟩ (.int .i64 0)).setCell ⟨w.heap.size, 4, none⟩ (.int .i64 0)).setCell ⟨w.heap.size, 5, none⟩ (.slice none 0 0)).cell? ⟨w.heap.size, 1, none⟩ = some (.int .i64 0) from (S.at_ 1 rfl).cell 1)
      have r2 := Lib.hid (show (((((((w2.alloc (.cells #[.int .i64 0, .int .i64 0, .int .i64 0, .int .i64 0, .int .i64 0, .slice none 0 0] 25)).setCell ⟨w.heap.size, 0, none⟩ (.int .i64 0)).setCell ⟨w.heap.size, 1, none⟩ (.int .i64 0)).setCell ⟨w.heap.size, 2, none⟩ (.int .i64 0)).setCell ⟨w.heap.size, 3, none⟩ (.int .i64 0)).setCell ⟨w.heap.size, 4, none⟩ (.int .i64 0)).setCell ⟨w.heap.size, 5, none⟩ (.slice none 0 0)).cell? ⟨w.heap.size, 2, none⟩ = some (.int .i64 0) from (S.at_ 1 rfl).cell 2)
      have r3 := Lib.hid (show (((((((w2.alloc (.cells #[.int .i64 0, .int .i64 0, .int .i64 0, .int .i64 0, .int .i64 0, .slice none 0 0] 25)).setCell ⟨w.heap.size, 0, none⟩ (.int .i64 0)).setCell ⟨w.heap.size, 1, none⟩ (.int .i64 0)).setCell ⟨w.heap.size, 2, none⟩ (.int .i64 0)).setCell ⟨w.heap.size, 3, none⟩ (.int .i64 0)).setCell ⟨w.heap.size, 4, none⟩ (.int .i64 0)).setCell ⟨w.heap.size, 5, none⟩ (.slice none 0 0)).cell? ⟨w.heap.size, 3, none⟩ = some (.int .i64 0) from (S.at_ 1 rfl).cell 3)
      have r4 := Lib.hid (show (((((((w2.alloc (.cells #[.int .i64 0, .int .i64 0, .int .i64 0, .int .i64 0, .int .i64 0, .slice none 0 0] 25)).setCell ⟨w.heap.size, 0, none⟩ (.int .i64 0)).setCell ⟨w.heap.size, 1, none⟩ (.int .i64 0)).setCell ⟨w.heap.size, 2, none⟩ (.int .i64 0)).setCell ⟨w.heap.size, 3, none⟩ (.int .i64 0)).setCell ⟨w.heap.size, 4, none⟩ (.int .i64 0)).setCell ⟨w.heap.size, 5, none⟩ (.slice none 0 0)).cell? ⟨w.heap.size, 4, none⟩ = some (.int .i64 0) from (S.at_ 1 rfl).cell 4)
      have r5 := Lib.hid (show (((((((w2.alloc (.cells #[.int .i64 0, .int .i64 0, .int .i64 0, .int .i64 0, .int .i64 0, .slice none 0 0] 25)).setCell ⟨w.heap.size, 0, none⟩ (.int .i64 0)).setCell ⟨w.heap.size, 1, none⟩ (.int .i64 0)).setCell ⟨w.heap.size, 2, none⟩ (.int .i64 0)).setCell ⟨w.heap.size, 3, none⟩ (.int .i64 0)).setCell ⟨w.heap.size, 4, none⟩ (.int .i64 0)).setCell ⟨w.heap.size, 5, none⟩ (.slice none 0 0)).cell? ⟨w.heap.size, 5, none⟩ = some (.slice none 0 0) from (S.at_ 1 rfl).cell 5)
      have CC := Lib.hid c
      clear S c
      go_wp2
      exact bodyPost_ret (v := .tuple #[.agg #[.int .i64 0, .int .i64 0, .int .i64 0, .int .i64 0, .int .i64 0, .slice none 0 0], .bool false]) (by simp [results, Try.results9, go_sem, r0.out, r1.out, r2.out, r3.out, r4.out, r5.out]) rfl ⟨0, 0, 0, 0, 0, none, 0, 0, by rw [HEO.out] <;> rfl, by rw [HEO.out]; exact Has.int (Has.int (Has.int (Has.int (Has.int (has_nil_djs _ _))))), CC.out⟩
    · rw [ho] at hv
      have HEO := Lib.hid ho
      clear ho
      obtain ⟨u, hu⟩ : ∃ u, v = .iface 60 u := ⟨_, hv⟩
      subst hu
      clear hv
      have q1 : ∀ w9, (Instr.typeAssert (.iface 60 u) 87 25 true).run Try.prog w9 = .ok (.tuple #[.agg #[.int .i64 0, .int .i64 0, .int .i64 0, .int .i64 0, .int .i64 0, .slice none 0 0], .bool false]) w9 := fun _ => by kernel_rfl
      replace c := c.trans (b.mono c.size)
      replace S := S.keep b
      clear b
      replace S := S.boxAt c.size (w2.heap.size) rfl #[.int .i64 0, .int .i64 0, .int .i64 0, .int .i64 0, .int .i64 0, .slice none 0 0] 25
      replace c := c.alloc c.size (.cells #[.int .i64 0, .int .i64 0, .int .i64 0, .int .i64 0, .int .i64 0, .slice none 0 0] 25)
      have f0 : (w2.alloc (.cells #[.int .i64 0, .int .i64 0, .int .i64 0, .int .i64 0, .int .i64 0, .slice none 0 0] 25)).cell? ⟨w2.heap.size, 0, none⟩ = some (.int .i64 0) := (S.at_ 0 rfl).cell 0
      have f1 := (S.at_ 0 rfl).free 0
      have f2 : (w2.alloc (.cells #[.int .i64 0, .int .i64 0, .int .i64 0, .int .i64 0, .int .i64 0, .slice none 0 0] 25)).cell? ⟨w2.heap.size, 1, none⟩ = some (.int .i64 0) := (S.at_ 0 rfl).cell 1
      have f3 := (S.at_ 0 rfl).free 1
      have f4 : (w2.alloc (.cells #[.int .i64 0, .int .i64 0, .int .i64 0, .int .i64 0, .int .i64 0, .slice none 0 0] 25)).cell? ⟨w2.heap.size, 2, none⟩ = some (.int .i64 0) := (S.at_ 0 rfl).cell 2
      have f5 := (S.at_ 0 rfl).free 2
      have f6 : (w2.alloc (.cells #[.int .i64 0, .int .i64 0, .int .i64 0, .int .i64 0, .int .i64 0, .slice none 0 0] 25)).cell? ⟨w2.heap.size, 3, none⟩ = some (.int .i64 0) := (S.at_ 0 rfl).cell 3
      have f7 := (S.at_ 0 rfl).free 3
      have f8 : (w2.alloc (.cells #[.int .i64 0, .int .i64 0, .int .i64 0, .int .i64 0, .int .i64 0, .slice none 0 0] 25)).cell? ⟨w2.heap.size, 4, none⟩ = some (.int .i64 0) := (S.at_ 0 rfl).cell 4
      have f9 := (S.at_ 0 rfl).free 4
      have f10 : (w2.alloc (.cells #[.int .i64 0, .int .i64 0, .int .i64 0, .int .i64 0, .int .i64 0, .slice none 0 0] 25)).cell? ⟨w2.heap.size, 5, none⟩ = some (.slice none 0 0) := (S.at_ 0 rfl).cell 5
      have f11 := (S.at_ 0 rfl).free 5
      have f12 : (w2.alloc (.cells #[.int .i64 0, .int .i64 0, .int .i64 0, .int .i64 0, .int .i64 0, .slice none 0 0] 25)).cell? ⟨w.heap.size, 0, none⟩ = some (.int .i64 0) := (S.at_ 1 rfl).cell 0
      have f13 := (S.at_ 1 rfl).free 0
      have f14 : (w2.alloc (.cells #[.int .i64 0, .int .i64 0, .int .i64 0, .int .i64 0, .int .i64 0, .slice none 0 0] 25)).cell? ⟨w.heap.size, 1, none⟩ = some (.int .i64 0) := (S.at_ 1 rfl).cell 1
      have f15 := (S.at_ 1 rfl).free 1
      have f16 : (w2.alloc (.cells #[.int .i64 0, .int .i64 0, .int .i64 0, .int .i64 0, .int .i64 0, .slice none 0 0] 25)).cell? ⟨w.heap.size, 2, none⟩ = some (.int .i64 0) := (S.at_ 1 rfl).cell 2
      have f17 := (S.at_ 1 rfl).free 2
      have f18 : (w2.alloc (.cells #[.int .i64 0, .int .i64 0, .int .i64 0, .int .i64 0, .int .i64 0, .slice none 0 0] 25)).cell? ⟨w.heap.size, 3, none⟩ = some (.int .i64 0) := (S.at_ 1 rfl).cell 3
      have f19 := (S.at_ 1 rfl).free 3
      have f20 : (w2.alloc (.cells #[.int .i64 0, .int .i64 0, .int .i64 0, .int .i64 0, .int .i64 0, .slice none 0 0] 25)).cell? ⟨w.heap.size, 4, none⟩ = some (.int .i64 0) := (S.at_ 1 rfl).cell 4
      have f21 := (S.at_ 1 rfl).free 4
      have f22 : (w2.alloc (.cells #[.int .i64 0, .int .i64 0, .int .i64 0, .int .i64 0, .int .i64 0, .slice none 0 0] 25)).cell? ⟨w.heap.size, 5, none⟩ = some (.slice none 0 0) := (S.at_ 1 rfl).cell 5
      have f23 := (S.at_ 1 rfl).free 5
      replace S := S.put 1 rfl 0 (.int .i64 0)
      replace c := c.setCell (p := ⟨w.heap.size, 0, none⟩) (by show w.heap.size ≤ w.heap.size; omega) (.int .i64 0)
      replace S := S.put 1 rfl 1 (.int .i64 0)
      replace c := c.setCell (p := ⟨w.heap.size, 1, none⟩) (by show w.heap.size ≤ w.heap.size; omega) (.int .i64 0)
      replace S := S.put 1 rfl 2 (.int .i64 0)
      replace c := c.setCell (p := ⟨w.heap.size, 2, none⟩) (by show w.heap.size ≤ w.heap.size; omega) (.int .i64 0)
      replace S := S.put 1 rfl 3 (.int .i64 0)
      replace c := c.setCell (p := ⟨w.heap.size, 3, none⟩) (by show w.heap.size ≤ w.heap.size; omega) (.int .i64 0)
      replace S := S.put 1 rfl 4 (.int .i64 0)
      replace c := c.setCell (p := ⟨w.heap.size, 4, none⟩) (by show w.heap.size ≤ w.heap.size; omega) (.int .i64 0)
      replace S := S.put 1 rfl 5 (.slice none 0 0)
      replace c := c.setCell (p := ⟨w.heap.size, 5, none⟩) (by show w.heap.size ≤ w.heap.size; omega) (.slice none 0 0)
      have r0 := Lib.hid (show (((((((w2.alloc (.cells #[.int .i64 0, .int .i64 0, .int .i64 0, .int .i64 0, .int .i64 0, .slice none 0 0] 25)).setCell ⟨w.heap.size, 0, none⟩ (.int .i64 0)).setCell ⟨w.heap.size, 1, none⟩ (.int .i64 0)).setCell ⟨w.heap.size, 2, none⟩ (.int .i64 0)).setCell ⟨w.heap.size, 3, none⟩ (.int .i64 0)).setCell ⟨w.heap.size, 4, none⟩ (.int .i64 0)).setCell ⟨w.heap.size, 5, none⟩ (.slice none 0 0)).cell? ⟨w.heap.size, 0, none⟩ = some (.int .i64 0) from (S.at_ 1 rfl).cell 0)
      have r1 := Lib.hid (show (((((((w2.alloc (.cells #[.int .i64 0, .int .i64 0, .int .i64 0, .int .i64 0, .int .i64 0, .slice none 0 0] 25)).setCell ⟨w.heap.size, 0, none⟩ (.int .i64 0)).setCell ⟨w.heap.size, 1, none⟩ (.int .i64 0)).setCell ⟨w.heap.size, 2, none⟩ (.int .i64 0)).setCell ⟨w.heap.size, 3, none⟩ (.int .i64 0)).setCell ⟨w.heap.size, 4, none⟩ (.int .i64 0)).setCell ⟨w.heap.size, 5, none⟩ (.slice none 0 0)).cell? ⟨w.heap.size, 1, none⟩ = some (.int .i64 0) from (S.at_ 1 rfl).cell 1)
      have r2 := Lib.hid (show (((((((w2.alloc (.cells #[.int .i64 0, .int .i64 0, .int .i64 0, .int .i64 0, .int .i64 0, .slice none 0 0] 25)).setCell ⟨w.heap.size, 0, none⟩ (.int .i64 0)).setCell ⟨w.heap.size, 1, none⟩ (.int .i64 0)).setCell ⟨w.heap.size, 2, none⟩ (.int .i64 0)).setCell ⟨w.heap.size, 3, none⟩ (.int .i64 0)).setCell ⟨w.heap.size, 4, none⟩ (.int .i64 0)).setCell ⟨w.heap.size, 5, none⟩ (.slice none 0 0)).cell? ⟨w.heap.size, 2, none⟩ = some (.int .i64 0) from (S.at_ 1 rfl).cell 2)
      have r3 := Lib.hid (show (((((((w2.alloc (.cells #[.int .i64 0, .int .i64 0, .int .i64 0, .int .i64 0, .int .i64 0, .slice none 0 0] 25)).setCell ⟨w.heap.size, 0, none⟩ (.int .i64 0)).setCell ⟨w.heap.size, 1, none⟩ (.int .i64 0)).setCell ⟨w.heap.size, 2, none⟩ (.int .i64 0)).setCell ⟨w.heap.size, 3, none⟩ (.int .i64 0)).setCell ⟨w.heap.size, 4, none⟩ (.int .i64 0)).setCell ⟨w.heap.size, 5, none⟩ (.slice none 0 0)).cell? ⟨w.heap.size, 3, none⟩ = some (.int .i64 0) from (S.at_ 1 rfl).cell 3)
      have r4 := Lib.hid (show (((((((w2.alloc (.cells #[.int .i64 0, .int .i64 0, .int .i64 0, .int .i64 0, .int .i64 0, .slice none 0 0] 25)).setCell ⟨w.heap.size, 0, none⟩ (.int .i64 0)).setCell ⟨w.heap.size, 1, none⟩ (.int .i64 0)).setCell ⟨w.heap.size, 2, none⟩ (.int .i64 0)).setCell ⟨w.heap.size, 3, none⟩ (.int .i64 0)).setCell ⟨w.heap.size, 4, none⟩ (.int .i64 0)).setCell ⟨w.heap.size, 5, none⟩ (.slice none 0 0)).cell? ⟨w.heap.size, 4, none⟩ = some (.int .i64 0) from (S.at_ 1 rfl).cell 4)
      have r5 := Lib.hid (show (((((((w2.alloc (.cells #[.int .i64 0, .int .i64 0, .int .i64 0, .int .i64 0, .int .i64 0, .slice none 0 0] 25)).setCell ⟨w.heap.size, 0, none⟩ (.int .i64 0)).setCell ⟨w.heap.size, 1, none⟩ (.int .i64 0)).setCell ⟨w.heap.size, 2, none⟩ (.int .i64 0)).setCell ⟨w.heap.size, 3, none⟩ (.int .i64 0)).setCell ⟨w.heap.size, 4, none⟩ (.int .i64 0)).setCell ⟨w.heap.size, 5, none⟩ (.slice none 0 0)).cell? ⟨w.heap.size, 5, none⟩ = some (.slice none 0 0) from (S.at_ 1 rfl).cell 5)
      have CC := Lib.hid c
      clear S c
      go_wp2
      exact bodyPost_ret (v := .tuple #[.agg #[.int .i64 0, .int .i64 0, .int .i64 0, .int .i64 0, .int .i64 0, .slice none 0 0], .bool false]) (by simp [results, Try.results9, go_sem, r0.out, r1.out, r2.out, r3.out, r4.out, r5.out]) rfl ⟨0, 0, 0, 0, 0, none, 0, 0, by rw [HEO.out] <;> rfl, by rw [HEO.out]; exact Has.int (Has.int (Has.int (Has.int (Has.int (has_nil_djs _ _))))), CC.out⟩
    · rw [ho] at hv
      have HEO := Lib.hid ho
      clear ho
      obtain ⟨u, hu⟩ : ∃ u, v = .iface 64 u := ⟨_, hv⟩
      subst hu
      clear hv
      have q1 : ∀ w9, (Instr.typeAssert (.iface 64 u) 87 25 true).run Try.prog w9 = .ok (.tuple #[.agg #[.int .i64 0, .int .i64 0, .int .i64 0, .int .i64 0, .int .i64 0, .slice none 0 0], .bool false]) w9 := fun _ => by kernel_rfl
      replace c := c.trans (b.mono c.size)
      replace S := S.keep b
      clear b
      replace S := S.boxAt c.size (w2.heap.size) rfl #[.int .i64 0, .int .i64 0, .int .i64 0, .int .i64 0, .int .i64 0, .slice none 0 0] 25
      replace c := c.alloc c.size (.cells #[.int .i64 0, .int .i64 0, .int .i64 0, .int .i64 0, .int .i64 0, .slice none 0 0] 25)
      have f0 : (w2.alloc (.cells #[.int .i64 0, .int .i64 0, .int .i64 0, .int .i64 0, .int .i64 0, .slice none 0 0] 25)).cell? ⟨w2.heap.size, 0, none⟩ = some (.int .i64 0) := (S.at_ 0 rfl).cell 0
      have f1 := (S.at_ 0 rfl).free 0
      have f2 : (w2.alloc (.cells #[.int .i64 0, .int .i64 0, .int .i64 0, .int .i64 0, .int .i64 0, .slice none 0 0] 25)).cell? ⟨w2.heap.size, 1, none⟩ = some (.int .i64 0) := (S.at_ 0 rfl).cell 1
      have f3 := (S.at_ 0 rfl).free 1
      have f4 : (w2.alloc (.cells #[.int .i64 0, .int .i64 0, .int .i64 0, .int .i64 0, .int .i64 0, .slice none 0 0] 25)).cell? ⟨w2.heap.size, 2, none⟩ = some (.int .i64 0) := (S.at_ 0 rfl).cell 2
      have f5 := (S.at_ 0 rfl).free 2
      have f6 : (w2.alloc (.cells #[.int .i64 0, .int .i64 0, .int .i64 0, .int .i64 0, .int .i64 0, .slice none 0 0] 25)).cell? ⟨w2.heap.size, 3, none⟩ = some (.int .i64 0) := (S.at_ 0 rfl).cell 3
      have f7 := (S.at_ 0 rfl).free 3
      have f8 : (w2.alloc (.cells #[.int .i64 0, .int .i64 0, .int .i64 0, .int .i64 0, .int .i64 0, .slice none 0 0] 25)).cell? ⟨w2.heap.size, 4, none⟩ = some (.int .i64 0) := (S.at_ 0 rfl).cell 4
      have f9 := (S.at_ 0 rfl).free 4
      have f10 : (w2.alloc (.cells #[.int .i64 0, .int .i64 0, .int .i64 0, .int .i64 0, .int .i64 0, .slice none 0 0] 25)).cell? ⟨w2.heap.size, 5, none⟩ = some (.slice none 0 0) := (S.at_ 0 rfl).cell 5
      have f11 := (S.at_ 0 rfl).free 5
      have f12 : (w2.alloc (.cells #[.int .i64 0, .int .i64 0, .int .i64 0, .int .i64 0, .int .i64 0, .slice none 0 0] 25)).cell? ⟨w.heap.size, 0, none⟩ = some (.int .i64 0) := (S.at_ 1 rfl).cell 0
      have f13 := (S.at_ 1 rfl).free 0
      have f14 : (w2.alloc (.cells #[.int .i64 0, .int .i64 0, .int .i64 0, .int .i64 0, .int .i64 0, .slice none 0 0] 25)).cell? ⟨w.heap.size, 1, none⟩ = some (.int .i64 0) := (S.at_ 1 rfl).cell 1
      have f15 := (S.at_ 1 rfl).free 1
      have f16 : (w2.alloc (.cells #[.int .i64 0, .int .i64 0, .int .i64 0, .int .i64 0, .int .i64 0, .slice none 0 0] 25)).cell? ⟨w.heap.size, 2, none⟩ = some (.int .i64 0) := (S.at_ 1 rfl).cell 2
      have f17 := (S.at_ 1 rfl).free 2
      have f18 : (w2.alloc (.cells #[.int .i64 0, .int .i64 0, .int .i64 0, .int .i64 0, .int .i64 0, .slice none 0 0] 25)).cell? ⟨w.heap.size, 3, none⟩ = some (.int .i64 0) := (S.at_ 1 rfl).cell 3
      have f19 := (S.at_ 1 rfl).free 3
      have f20 : (w2.alloc (.cells #[.int .i64 0, .int .i64 0, .int .i64 0, .int .i64 0, .int .i64 0, .slice none 0 0] 25)).cell? ⟨w.heap.size, 4, none⟩ = some (.int .i64 0) := (S.at_ 1 rfl).cell 4
      have f21 := (S.at_ 1 rfl).free 4
      have f22 : (w2.alloc (.cells #[.int .i64 0, .int .i64 0, .int .i64 0, .int .i64 0, .int .i64 0, .slice none 0 0] 25)).cell? ⟨w.heap.size, 5, none⟩ = some (.slice none 0 0) := (S.at_ 1 rfl).cell 5
      have f23 := (S.at_ 1 rfl).free 5
      replace S := S.put 1 rfl 0 (.int .i64 0)
      replace c := c.setCell (p := ⟨w.heap.size, 0, none⟩) (by show w.heap.size ≤ w.heap.size; omega) (.int .i64 0)
      replace S := S.put 1 rfl 1 (.int .i64 0)
      replace c := c.setCell (p := ⟨w.heap.size, 1, none⟩) (by show w.heap.size ≤ w.heap.size; omega) (.int .i64 0)
      replace S := S.put 1 rfl 2 (.int .i64 0)
      replace c := c.setCell (p := ⟨w.heap.size, 2, none⟩) (by show w.heap.size ≤ w.heap.size; omega) (.int .i64 0)
      replace S := S.put 1 rfl 3 (.int .i64 0)
      replace c := c.setCell (p := ⟨w.heap.size, 3, none⟩) (by show w.heap.size ≤ w.heap.size; omega) (.int .i64 0)
      replace S := S.put 1 rfl 4 (.int .i64 0)
      replace c := c.setCell (p := ⟨w.heap.size, 4, none⟩) (by show w.heap.size ≤ w.heap.size; omega) (.int .i64 0)
      replace S := S.put 1 rfl 5 (.slice none 0 0)
      replace c := c.setCell (p := ⟨w.heap.size, 5, none⟩) (by show w.heap.size ≤ w.heap.size; omega) (.slice none 0 0)
      have r0 := Lib.hid (show (((((((w2.alloc (.cells #[.int .i64 0, .int .i64 0, .int .i64 0, .int .i64 0, .int .i64 0, .slice none 0 0] 25)).setCell ⟨w.heap.size, 0, none⟩ (.int .i64 0)).setCell ⟨w.heap.size, 1, none⟩ (.int .i64 0)).setCell ⟨w.heap.size, 2, none⟩ (.int .i64 0)).setCell ⟨w.heap.size, 3, none⟩ (.int .i64 0)).setCell ⟨w.heap.size, 4, none⟩ (.int .i64 0)).setCell ⟨w.heap.size, 5, none⟩ (.slice none 0 0)).cell? ⟨w.heap.size, 0, none⟩ = some (.int .i64 0) from (S.at_ 1 rfl).cell 0)
      have r1 := Lib.hid (show (((((((w2.alloc (.cells #[.int .i64 0, .int .i64 0, .int .i64 0, .int .i64 0, .int .i64 0, .slice none 0 0] 25)).setCell ⟨w.heap.size, 0, none⟩ (.int .i64 0)).setCell ⟨w.heap.size, 1, none⟩ (.int .i64 0)).setCell ⟨w.heap.size, 2, none⟩ (.int .i64 0)).setCell ⟨w.heap.size, 3, none⟩ (.int .i64 0)).setCell ⟨w.heap.size, 4, none⟩ (.int .i64 0)).setCell ⟨w.heap.size, 5, none⟩ (.slice none 0 0)).cell? ⟨w.heap.size, 1, none⟩ = some (.int .i64 0) from (S.at_ 1 rfl).cell 1)
      have r2 := Lib.hid (show (((((((w2.alloc (.cells #[.int .i64 0, .int .i64 0, .int .i64 0, .int .i64 0, .int .i64 0, .slice none 0 0] 25)).setCell ⟨w.heap.size, 0, none⟩ (.int .i64 0)).setCell ⟨w.heap.size, 1, none⟩ (.int .i64 0)).setCell ⟨w.heap.size, 2, none⟩ (.int .i64 0)).setCell ⟨w.heap.size, 3, none⟩ (.int .i64 0)).setCell ⟨w.heap.size, 4, none⟩ (.int .i64 0)).setCell ⟨w.heap.size, 5, none⟩ (.slice none 0 0)).cell? ⟨w.heap.size, 2, none⟩ = some (.int .i64 0) from (S.at_ 1 rfl).cell 2)
      have r3 := Lib.hid (show (((((((w2.alloc (.cells #[.int .i64 0, .int .i64 0, .int .i64 0, .int .i64 0, .int .i64 0, .slice none 0 0] 25)).setCell ⟨w.heap.size, 0, none⟩ (.int .i64 0)).setCell ⟨w.heap.size, 1, none⟩ (.int .i64 0)).setCell ⟨w.heap.size, 2, none⟩ (.int .i64 0)).setCell ⟨w.heap.size, 3, none⟩ (.int .i64 0)).setCell ⟨w.heap.size, 4, none⟩ (.int .i64 0)).setCell ⟨w.heap.size, 5, none⟩ (.slice none 0 0)).cell? ⟨w.heap.size, 3, none⟩ = some (.int .i64 0) from (S.at_ 1 rfl).cell 3)
      have r4 := Lib.hid (show (((((((w2.alloc (.cells #[.int .i64 0, .int .i64 0, .int .i64 0, .int .i64 0, .int .i64 0, .slice none 0 0] 25)).setCell ⟨w.heap.size, 0, none⟩ (.int .i64 0)).setCell ⟨w.heap.size, 1, none⟩ (.int .i64 0)).setCell ⟨w.heap.size, 2, none⟩ (.int .i64 0)).setCell ⟨w.heap.size, 3, none⟩ (.int .i64 0)).setCell ⟨w.heap.size, 4, none⟩ (.int .i64 0)).setCell ⟨w.heap.size, 5, none⟩ (.slice none 0 0)).cell? ⟨w.heap.size, 4, none⟩ = some (.int .i64 0) from (S.at_ 1 rfl).cell 4)
      have r5 := Lib.hid (show (((((((w2.alloc (.cells #[.int .i64 0, .int .i64 0, .int .i64 0, .int .i64 0, .int .i64 0, .slice none 0 0] 25)).setCell ⟨w.heap.size, 0, none⟩ (.int .i64 0)).setCell ⟨w.heap.size, 1, none⟩ (.int .i64 0)).setCell ⟨w.heap.size, 2, none⟩ (.int .i64 0)).setCell ⟨w.heap.size, 3, none⟩ (.int .i64 0)).setCell ⟨w.heap.size, 4, none⟩ (.int .i64 0)).setCell ⟨w.heap.size, 5, none⟩ (.slice none 0 0)).cell? ⟨w.heap.size, 5, none⟩ = some (.slice none 0 0) from (S.at_ 1 rfl).cell 5)
      have CC := Lib.hid c
      clear S c
      go_wp2
      exact bodyPost_ret (v := .tuple #[.agg #[.int .i64 0, .int .i64 0, .int .i64 0, .int .i64 0, .int .i64 0, .slice none 0 0], .bool false]) (by simp [results, Try.results9, go_sem, r0.out, r1.out, r2.out, r3.out, r4.out, r5.out]) rfl ⟨0, 0, 0, 0, 0, none, 0, 0, by rw [HEO.out] <;> rfl, by rw [HEO.out]; exact Has.int (Has.int (Has.int (Has.int (Has.int (has_nil_djs _ _))))), CC.out⟩
    · rw [ho] at hv
      have HEO := Lib.hid ho
      clear ho
      obtain ⟨u, hu⟩ : ∃ u, v = .iface 101 u := ⟨_, hv⟩
      subst hu
      clear hv
      have q1 : ∀ w9, (Instr.typeAssert (.iface 101 u) 87 25 true).run Try.prog w9 = .ok (.tuple #[.agg #[.int .i64 0, .int .i64 0, .int .i64 0, .int .i64 0, .int .i64 0, .slice none 0 0], .bool false]) w9 := fun _ => by kernel_rfl
      replace c := c.trans (b.mono c.size)
      replace S := S.keep b
      clear b
      replace S := S.boxAt c.size (w2.heap.size) rfl #[.int .i64 0, .int .i64 0, .int .i64 0, .int .i64 0, .int .i64 0, .slice none 0 0] 25
      replace c := c.alloc c.size (.cells #[.int .i64 0, .int .i64 0, .int .i64 0, .int .i64 0, .int .i64 0, .slice none 0 0] 25)
      have f0 : (w2.alloc (.cells #[.int .i64 0, .int .i64 0, .int .i64 0, .int .i64 0, .int .i64 0, .slice none 0 0] 25)).cell? ⟨w2.heap.size, 0, none⟩ = some (.int .i64 0) := (S.at_ 0 rfl).cell 0
      have f1 := (S.at_ 0 rfl).free 0
      have f2 : (w2.alloc (.cells #[.int .i64 0, .int .i64 0, .int .i64 0, .int .i64 0, .int .i64 0, .slice none 0 0] 25)).cell? ⟨w2.heap.size, 1, none⟩ = some (.int .i64 0) := (S.at_ 0 rfl).cell 1
      have f3 := (S.at_ 0 rfl).free 1
      have f4 : (w2.alloc (.cells #[.int .i64 0, .int .i64 0, .int .i64 0, .int .i64 0, .int .i64 0, .slice none 0 0] 25)).cell? ⟨w2.heap.size, 2, none⟩ = some (.int .i64 0) := (S.at_ 0 rfl).cell 2
      have f5 := (S.at_ 0 rfl).free 2
      have f6 : (w2.alloc (.cells #[.int .i64 0, .int .i64 0, .int .i64 0, .int .i64 0, .int .i64 0, .slice none 0 0] 25)).cell? ⟨w2.heap.size, 3, none⟩ = some (.int .i64 0) := (S.at_ 0 rfl).cell 3
      have f7 := (S.at_ 0 rfl).free 3
      have f8 : (w2.alloc (.cells #[.int .i64 0, .int .i64 0, .int .i64 0, .int .i64 0, .int .i64 0, .slice none 0 0] 25)).cell? ⟨w2.heap.size, 4, none⟩ = some (.int .i64 0) := (S.at_ 0 rfl).cell 4
      have f9 := (S.at_ 0 rfl).free 4
      have f10 : (w2.alloc (.cells #[.int .i64 0, .int .i64 0, .int .i64 0, .int .i64 0, .int .i64 0, .slice none 0 0] 25)).cell? ⟨w2.heap.size, 5, none⟩ = some (.slice none 0 0) := (S.at_ 0 rfl).cell 5
      have f11 := (S.at_ 0 rfl).free 5
      have f12 : (w2.alloc (.cells #[.int .i64 0, .int .i64 0, .int .i64 0, .int .i64 0, .int .i64 0, .slice none 0 0] 25)).cell? ⟨w.heap.size, 0, none⟩ = some (.int .i64 0) := (S.at_ 1 rfl).cell 0
      have f13 := (S.at_ 1 rfl).free 0
      have f14 : (w2.alloc (.cells #[.int .i64 0, .int .i64 0, .int .i64 0, .int .i64 0, .int .i64 0, .slice none 0 0] 25)).cell? ⟨w.heap.size, 1, none⟩ = some (.int .i64 0) := (S.at_ 1 rfl).cell 1
      have f15 := (S.at_ 1 rfl).free 1
      have f16 : (w2.alloc (.cells #[.int .i64 0, .int .i64 0, .int .i64 0, .int .i64 0, .int .i64 0, .slice none 0 0] 25)).cell? ⟨w.heap.size, 2, none⟩ = some (.int .i64 0) := (S.at_ 1 rfl).cell 2
      have f17 := (S.at_ 1 rfl).free 2
      have f18 : (w2.alloc (.cells #[.int .i64 0, .int .i64 0, .int .i64 0, .int .i64 0, .int .i64 0, .slice none 0 0] 25)).cell? ⟨w.heap.size, 3, none⟩ = some (.int .i64 0) := (S.at_ 1 rfl).cell 3
      have f19 := (S.at_ 1 rfl).free 3
      have f20 : (w2.alloc (.cells #[.int .i64 0, .int .i64 0, .int .i64 0, .int .i64 0, .int .i64 0, .slice none 0 0] 25)).cell? ⟨w.heap.size, 4, none⟩ = some (.int .i64 0) := (S.at_ 1 rfl).cell 4
      have f21 := (S.at_ 1 rfl).free 4
      have f22 : (w2.alloc (.cells #[.int .i64 0, .int .i64 0, .int .i64 0, .int .i64 0, .int .i64 0, .slice none 0 0] 25)).cell? ⟨w.heap.size, 5, none⟩ = some (.slice none 0 0) := (S.at_ 1 rfl).cell 5
      have f23 := (S.at_ 1 rfl).free 5
      replace S := S.put 1 rfl 0 (.int .i64 0)
      replace c := c.setCell (p := ⟨w.heap.size, 0, none⟩) (by show w.heap.size ≤ w.heap.size; omega) (.int .i64 0)
      replace S := S.put 1 rfl 1 (.int .i64 0)
      replace c := c.setCell (p := ⟨w.heap.size, 1, none⟩) (by show w.heap.size ≤ w.heap.size; omega) (.int .i64 0)
      replace S := S.put 1 rfl 2 (.int .i64 0)
      replace c := c.setCell (p := ⟨w.heap.size, 2, none⟩) (by show w.heap.size ≤ w.heap.size; omega) (.int .i64 0)
      replace S := S.put 1 rfl 3 (.int .i64 0)
      replace c := c.setCell (p := ⟨w.heap.size, 3, none⟩) (by show w.heap.size ≤ w.heap.size; omega) (.int .i64 0)
      replace S := S.put 1 rfl 4 (.int .i64 0)
      replace c := c.setCell (p := ⟨w.heap.size, 4, none⟩) (by show w.heap.size ≤ w.heap.size; omega) (.int .i64 0)
      replace S := S.put 1 rfl 5 (.slice none 0 0)
      replace c := c.setCell (p := ⟨w.heap.size, 5, none⟩) (by show w.heap.size ≤ w.heap.size; omega) (.slice none 0 0)
      have r0 := Lib.hid (show (((((((w2.alloc (.cells #[.int .i64 0, .int .i64 0, .int .i64 0, .int .i64 0, .int .i64 0, .slice none 0 0] 25)).setCell ⟨w.heap.size, 0, none⟩ (.int .i64 0)).setCell ⟨w.heap.size, 1, none⟩ (.int .i64 0)).setCell ⟨w.heap.size, 2, none⟩ (.int .i64 0)).setCell ⟨w.heap.size, 3, none⟩ (.int .i64 0)).setCell ⟨w.heap.size, 4, none⟩ (.int .i64 0)).setCell ⟨w.heap.size, 5, none⟩ (.slice none 0 0)).cell? ⟨w.heap.size, 0, none⟩ = some (.int .i64 0) from (S.at_ 1 rfl).cell 0)
      have r1 := Lib.hid (show (((((((w2.alloc (.cells #[.int .i64 0, .int .i64 0, .int .i64 0, .int .i64 0, .int .i64 0, .slice none 0 0] 25)).setCell ⟨w.heap.size, 0, none⟩ (.int .i64 0)).setCell ⟨w.heap.size, 1, none⟩ (.int .i64 0)).setCell ⟨w.heap.size, 2, none⟩ (.int .i64 0)).setCell ⟨w.heap.size, 3, none⟩ (.int .i64 0)).setCell ⟨w.heap.size, 4, none⟩ (.int .i64 0)).setCell ⟨w.heap.size, 5, none⟩ (.slice none 0 0)).cell? ⟨w.heap.size, 1, none⟩ = some (.int .i64 0) from (S.at_ 1 rfl).cell 1)
      have r2 := Lib.hid (show (((((((w2.alloc (.cells #[.int .i64 0, .int .i64 0, .int .i64 0, .int .i64 0, .int .i64 0, .slice none 0 0] 25)).setCell ⟨w.heap.size, 0, none⟩ (.int .i64 0)).setCell ⟨w.heap.size, 1, none⟩ (.int .i64 0)).setCell ⟨w.heap.size, 2, none⟩ (.int .i64 0)).setCell ⟨w.heap.size, 3, none⟩ (.int .i64 0)).setCell ⟨w.heap.size, 4, none⟩ (.int .i64 0)).setCell ⟨w.heap.size, 5, none⟩ (.slice none 0 0)).cell? ⟨w.heap.size, 2, none⟩ = some (.int .i64 0) from (S.at_ 1 rfl).cell 2)
      have r3 := Lib.hid (show (((((((w2.alloc (.cells #[.int .i64 0, .int .i64 0, .int .i64 0, .int .i64 0, .int .i64 0, .slice none 0 0] 25)).setCell ⟨w.heap.size, 0, none⟩ (.int .i64 0)).setCell ⟨w.heap.size, 1, none⟩ (.int .i64 0)).setCell ⟨w.heap.size, 2, none⟩ (.int .i64 0)).setCell ⟨w.heap.size, 3, none⟩ (.int .i64 0)).setCell ⟨w.heap.size, 4, none⟩ (.int .i64 0)).setCell ⟨w.heap.size, 5, none⟩ (.slice none 0 0)).cell? ⟨w.heap.size, 3, none⟩ = some (.int .i64 0) from (S.at_ 1 rfl).cell 3)
      have r4 := Lib.hid (show (((((((w2.alloc (.cells #[.int .i64 0, .int .i64 0, .int .i64 0, .int .i64 0, .int .i64 0, .slice none 0 0] 25)).setCell ⟨w.heap.size, 0, none⟩ (.int .i64 0)).setCell ⟨w.heap.size, 1, none⟩ (.int .i64 0)).setCell ⟨w.heap.size, 2, none⟩ (.int .i64 0)).setCell ⟨w.heap.size, 3, none⟩ (.int .i64 0)).setCell ⟨w.heap.size, 4, none⟩ (.int .i64 0)).setCell ⟨w.heap.size, 5, none⟩ (.slice none 0 0)).cell? ⟨w.heap.size, 4, none⟩ = some (.int .i64 0) from (S.at_ 1 rfl).cell 4)
      have r5 := Lib.hid (show (((((((w2.alloc (.cells #[.int .i64 0, .int .i64 0, .int .i64 0, .int .i64 0, .int .i64 0, .slice none 0 0] 25)).setCell ⟨w.heap.size, 0, none⟩ (.int .i64 0)).setCell ⟨w.heap.size, 1, none⟩ (.int .i64 0)).setCell ⟨w.heap.size, 2, none⟩ (.int .i64 0)).setCell ⟨w.heap.size, 3, none⟩ (.int .i64 0)).setCell ⟨w.heap.size, 4, none⟩ (.int .i64 0)).setCell ⟨w.heap.size, 5, none⟩ (.slice none 0 0)).cell? ⟨w.heap.size, 5, none⟩ = some (.slice none 0 0) from (S.at_ 1 rfl).cell 5)
      have CC := Lib.hid c
      clear S c
      go_wp2
      exact bodyPost_ret (v := .tuple #[.agg #[.int .i64 0, .int .i64 0, .int .i64 0, .int .i64 0, .int .i64 0, .slice none 0 0], .bool false]) (by simp [results, Try.results9, go_sem, r0.out, r1.out, r2.out, r3.out, r4.out, r5.out]) rfl ⟨0, 0, 0, 0, 0, none, 0, 0, by rw [HEO.out] <;> rfl, by rw [HEO.out]; exact Has.int (Has.int (Has.int (Has.int (Has.int (has_nil_djs _ _))))), CC.out⟩
    · obtain ⟨x0, x1, x2, x3, x4, l⟩ := a
      rw [ho] at hv
      have HEO := Lib.hid ho
      clear ho
      obtain ⟨G, m9, gc, hv', ho⟩ := hv
      have hv2 : v = .iface 25 (.agg #[.int .i64 x0, .int .i64 x1, .int .i64 x2, .int .i64 x3, .int .i64 x4, .slice G m9 gc]) := hv'
      have o : Has w2 w1.heap.size [djD l] [.slice G m9 gc] := ho
      clear hv' ho
      subst hv2
      have q1 : ∀ w9, (Instr.typeAssert (.iface 25 (.agg #[.int .i64 x0, .int .i64 x1, .int .i64 x2, .int .i64 x3, .int .i64 x4, .slice G m9 gc])) 87 25 true).run Try.prog w9 = .ok (.tuple #[.agg #[.int .i64 x0, .int .i64 x1, .int .i64 x2, .int .i64 x3, .int .i64 x4, .slice G m9 gc], .bool true]) w9 := fun _ => by kernel_rfl
      obtain ⟨fp_u, S'⟩ := S.has b o c.size
      replace c := c.trans (b.mono c.size)
      clear S; have S := S'; clear S' o b
      replace S := S.boxAt c.size (w2.heap.size) rfl #[.int .i64 x0, .int .i64 x1, .int .i64 x2, .int .i64 x3, .int .i64 x4, .slice G m9 gc] 25
      replace c := c.alloc c.size (.cells #[.int .i64 x0, .int .i64 x1, .int .i64 x2, .int .i64 x3, .int .i64 x4, .slice G m9 gc] 25)
      have f0 : (w2.alloc (.cells #[.int .i64 x0, .int .i64 x1, .int .i64 x2, .int .i64 x3, .int .i64 x4, .slice G m9 gc] 25)).cell? ⟨w2.heap.size, 0, none⟩ = some (.int .i64 x0) := (S.at_ 0 rfl).cell 0
      have f1 := (S.at_ 0 rfl).free 0
      have f2 : (w2.alloc (.cells #[.int .i64 x0, .int .i64 x1, .int .i64 x2, .int .i64 x3, .int .i64 x4, .slice G m9 gc] 25)).cell? ⟨w2.heap.size, 1, none⟩ = some (.int .i64 x1) := (S.at_ 0 rfl).cell 1
      have f3 := (S.at_ 0 rfl).free 1
      have f4 : (w2.alloc (.cells #[.int .i64 x0, .int .i64 x1, .int .i64 x2, .int .i64 x3, .int .i64 x4, .slice G m9 gc] 25)).cell? ⟨w2.heap.size, 2, none⟩ = some (.int .i64 x2) := (S.at_ 0 rfl).cell 2
      have f5 := (S.at_ 0 rfl).free 2
      have f6 : (w2.alloc (.cells #[.int .i64 x0, .int .i64 x1, .int .i64 x2, .int .i64 x3, .int .i64 x4, .slice G m9 gc] 25)).cell? ⟨w2.heap.size, 3, none⟩ = some (.int .i64 x3) := (S.at_ 0 rfl).cell 3
      have f7 := (S.at_ 0 rfl).free 3
      have f8 : (w2.alloc (.cells #[.int .i64 x0, .int .i64 x1, .int .i64 x2, .int .i64 x3, .int .i64 x4, .slice G m9 gc] 25)).cell? ⟨w2.heap.size, 4, none⟩ = some (.int .i64 x4) := (S.at_ 0 rfl).cell 4
      have f9 := (S.at_ 0 rfl).free 4
      have f10 : (w2.alloc (.cells #[.int .i64 x0, .int .i64 x1, .int .i64 x2, .int .i64 x3, .int .i64 x4, .slice G m9 gc] 25)).cell? ⟨w2.heap.size, 5, none⟩ = some (.slice G m9 gc) := (S.at_ 0 rfl).cell 5
      have f11 := (S.at_ 0 rfl).free 5
      have f12 : (w2.alloc (.cells #[.int .i64 x0, .int .i64 x1, .int .i64 x2, .int .i64 x3, .int .i64 x4, .slice G m9 gc] 25)).cell? ⟨w.heap.size, 0, none⟩ = some (.int .i64 0) := (S.at_ 2 rfl).cell 0
      have f13 := (S.at_ 2 rfl).free 0
      have f14 : (w2.alloc (.cells #[.int .i64 x0, .int .i64 x1, .int .i64 x2, .int .i64 x3, .int .i64 x4, .slice G m9 gc] 25)).cell? ⟨w.heap.size, 1, none⟩ = some (.int .i64 0) := (S.at_ 2 rfl).cell 1
      have f15 := (S.at_ 2 rfl).free 1
      have f16 : (w2.alloc (.cells #[.int .i64 x0, .int .i64 x1, .int .i64 x2, .int .i64 x3, .int .i64 x4, .slice G m9 gc] 25)).cell? ⟨w.heap.size, 2, none⟩ = some (.int .i64 0) := (S.at_ 2 rfl).cell 2
      have f17 := (S.at_ 2 rfl).free 2
      have f18 : (w2.alloc (.cells #[.int .i64 x0, .int .i64 x1, .int .i64 x2, .int .i64 x3, .int .i64 x4, .slice G m9 gc] 25)).cell? ⟨w.heap.size, 3, none⟩ = some (.int .i64 0) := (S.at_ 2 rfl).cell 3
      have f19 := (S.at_ 2 rfl).free 3
      have f20 : (w2.alloc (.cells #[.int .i64 x0, .int .i64 x1, .int .i64 x2, .int .i64 x3, .int .i64 x4, .slice G m9 gc] 25)).cell? ⟨w.heap.size, 4, none⟩ = some (.int .i64 0) := (S.at_ 2 rfl).cell 4
      have f21 := (S.at_ 2 rfl).free 4
      have f22 : (w2.alloc (.cells #[.int .i64 x0, .int .i64 x1, .int .i64 x2, .int .i64 x3, .int .i64 x4, .slice G m9 gc] 25)).cell? ⟨w.heap.size, 5, none⟩ = some (.slice none 0 0) := (S.at_ 2 rfl).cell 5
      have f23 := (S.at_ 2 rfl).free 5
      replace S := S.put 2 rfl 0 (.int .i64 x0)
      replace c := c.setCell (p := ⟨w.heap.size, 0, none⟩) (by show w.heap.size ≤ w.heap.size; omega) (.int .i64 x0)
      replace S := S.put 2 rfl 1 (.int .i64 x1)
      replace c := c.setCell (p := ⟨w.heap.size, 1, none⟩) (by show w.heap.size ≤ w.heap.size; omega) (.int .i64 x1)
      replace S := S.put 2 rfl 2 (.int .i64 x2)
      replace c := c.setCell (p := ⟨w.heap.size, 2, none⟩) (by show w.heap.size ≤ w.heap.size; omega) (.int .i64 x2)
      replace S := S.put 2 rfl 3 (.int .i64 x3)
      replace c := c.setCell (p := ⟨w.heap.size, 3, none⟩) (by show w.heap.size ≤ w.heap.size; omega) (.int .i64 x3)
      replace S := S.put 2 rfl 4 (.int .i64 x4)
      replace c := c.setCell (p := ⟨w.heap.size, 4, none⟩) (by show w.heap.size ≤ w.heap.size; omega) (.int .i64 x4)
      replace S := S.put 2 rfl 5 (.slice G m9 gc)
      replace c := c.setCell (p := ⟨w.heap.size, 5, none⟩) (by show w.heap.size ≤ w.heap.size; omega) (.slice G m9 gc)
      have r0 := Lib.hid (show (((((((w2.alloc (.cells #[.int .i64 x0, .int .i64 x1, .int .i64 x2, .int .i64 x3, .int .i64 x4, .slice G m9 gc] 25)).setCell ⟨w.heap.size, 0, none⟩ (.int .i64 x0)).setCell ⟨w.heap.size, 1, none⟩ (.int .i64 x1)).setCell ⟨w.heap.size, 2, none⟩ (.int .i64 x2)).setCell ⟨w.heap.size, 3, none⟩ (.int .i64 x3)).setCell ⟨w.heap.size, 4, none⟩ (.int .i64 x4)).setCell ⟨w.heap.size, 5, none⟩ (.slice G m9 gc)).cell? ⟨w.heap.size, 0, none⟩ = some (.int .i64 x0) from (S.at_ 2 rfl).cell 0)
      have r1 := Lib.hid (show (((((((w2.alloc (.cells #[.int .i64 x0, .int .i64 x1, .int .i64 x2, .int .i64 x3, .int .i64 x4, .slice G m9 gc] 25)).setCell ⟨w.heap.size, 0, none⟩ (.int .i64 x0)).setCell ⟨w.heap.size, 1, none⟩ (.int .i64 x1)).setCell ⟨w.heap.size, 2, none⟩ (.int .i64 x2)).setCell ⟨w.heap.size, 3, none⟩ (.int .i64 x3)).setCell ⟨w.heap.size, 4, none⟩ (.int .i64 x4)).setCell ⟨w.heap.size, 5, none⟩ (.slice G m9 gc)).cell? ⟨w.heap.size, 1, none⟩ = some (.int .i64 x1) from (S.at_ 2 rfl).cell 1)
      have r2 := Lib.hid (show (((((((w2.alloc (.cells #[.int .i64 x0, .int .i64 x1, .int .i64 x2, .int .i64 x3, .int .i64 x4, .slice G m9 gc] 25)).setCell ⟨w.heap.size, 0, none⟩ (.int .i64 x0)).setCell ⟨w.heap.size, 1, none⟩ (.int .i64 x1)).setCell ⟨w.heap.size, 2, none⟩ (.int .i64 x2)).setCell ⟨w.heap.size, 3, none⟩ (.int .i64 x3)).setCell ⟨w.heap.size, 4, none⟩ (.int .i64 x4)).setCell ⟨w.heap.size, 5, none⟩ (.slice G m9 gc)).cell? ⟨w.heap.size, 2, none⟩ = some (.int .i64 x2) from (S.at_ 2 rfl).cell 2)
      have r3 := Lib.hid (show (((((((w2.alloc (.cells #[.int .i64 x0, .int .i64 x1, .int .i64 x2, .int .i64 x3, .int .i64 x4, .slice G m9 gc] 25)).setCell ⟨w.heap.size, 0, none⟩ (.int .i64 x0)).setCell ⟨w.heap.size, 1, none⟩ (.int .i64 x1)).setCell ⟨w.heap.size, 2, none⟩ (.int .i64 x2)).setCell ⟨w.heap.size, 3, none⟩ (.int .i64 x3)).setCell ⟨w.heap.size, 4, none⟩ (.int .i64 x4)).setCell ⟨w.heap.size, 5, none⟩ (.slice G m9 gc)).cell? ⟨w.heap.size, 3, none⟩ = some (.int .i64 x3) from (S.at_ 2 rfl).cell 3)
      have r4 := Lib.hid (show (((((((w2.alloc (.cells #[.int .i64 x0, .int .i64 x1, .int .i64 x2, .int .i64 x3, .int .i64 x4, .slice G m9 gc] 25)).setCell ⟨w.heap.size, 0, none⟩ (.int .i64 x0)).setCell ⟨w.heap.size, 1, none⟩ (.int .i64 x1)).setCell ⟨w.heap.size, 2, none⟩ (.int .i64 x2)).setCell ⟨w.heap.size, 3, none⟩ (.int .i64 x3)).setCell ⟨w.heap.size, 4, none⟩ (.int .i64 x4)).setCell ⟨w.heap.size, 5, none⟩ (.slice G m9 gc)).cell? ⟨w.heap.size, 4, none⟩ = some (.int .i64 x4) from (S.at_ 2 rfl).cell 4)
      have r5 := Lib.hid (show (((((((w2.alloc (.cells #[.int .i64 x0, .int .i64 x1, .int .i64 x2, .int .i64 x3, .int .i64 x4, .slice G m9 gc] 25)).setCell ⟨w.heap.size, 0, none⟩ (.int .i64 x0)).setCell ⟨w.heap.size, 1, none⟩ (.int .i64 x1)).setCell ⟨w.heap.size, 2, none⟩ (.int .i64 x2)).setCell ⟨w.heap.size, 3, none⟩ (.int .i64 x3)).setCell ⟨w.heap.size, 4, none⟩ (.int .i64 x4)).setCell ⟨w.heap.size, 5, none⟩ (.slice G m9 gc)).cell? ⟨w.heap.size, 5, none⟩ = some (.slice G m9 gc) from (S.at_ 2 rfl).cell 5)
      have CC := Lib.hid c
      have H := Lib.hid ((S.pick 1 rfl).first)
      clear S c
      go_wp2
      exact bodyPost_ret (v := .tuple #[.agg #[.int .i64 x0, .int .i64 x1, .int .i64 x2, .int .i64 x3, .int .i64 x4, .slice G m9 gc], .bool true]) (by simp [results, Try.results9, go_sem, r0.out, r1.out, r2.out, r3.out, r4.out, r5.out]) rfl ⟨x0, x1, x2, x3, x4, G, m9, gc, by rw [HEO.out] <;> rfl, by rw [HEO.out]; exact Has.int (Has.int (Has.int (Has.int (Has.int (H.out))))), CC.out⟩

end Go.Proofs.Ytepnghjmpbfmcaa

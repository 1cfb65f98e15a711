/-
  Chapter 11: RowFeed of the program (by program, wip/gen/genleti7.py).
-/
import Derived.Test.YtafbjmhjjbfaeaaLetI6
import Derived.RegionTactic
import Derived.BigQuiet
import Derived.Laws.EntriesVeiled
namespace Go.Proofs.Ytafbjmhjjbfaeaa
set_option maxRecDepth 100000
open Go.RowKit

set_option linter.unusedVariables false
set_option linter.unusedSimpArgs false
set_option maxHeartbeats 12800000 in
theorem iRowFeed_at (A : Option Addr) (n c : Nat) (d0 : List Int) (w : World) (h : Rd w w.heap.size (rowCells d0) [.slice A n c]) (hs : d0.length ≤ 1048576) :
    Calls Try.prog 32 #[.slice A n c] w fun e w' => ∃ (y0 y1 : Int) (A2 : Option Addr) (n2 c2 : Nat), e = .returned (.tuple #[.agg #[.int .i64 y0, .int .i64 y1, .slice A2 n2 c2], .bool (rowFeedM d0).2]) ∧ Has w' w.heap.size ((rowFeedM d0).1.cells) [.int .i64 y0, .int .i64 y1, .slice A2 n2 c2] ∧ Below w.heap.size w w' := by
  obtain ⟨_, _, _, e, hi, hnc, hcm⟩ := h.irow
  injection e with e1 e2 e3
  subst e1 e2 e3
  have hn : n ≤ 1048577 := by have := hi.1; omega
  have HI := Lib.hid hi
  rw [rowFeed_in d0]
  have hnc2 := hnc
  obtain ⟨cc, hcc⟩ : ∃ q, q = c := ⟨_, rfl⟩
  rw [← hcc] at hnc hcm ⊢
  clear h hs hi hnc2 hcc c
  have S := Sep.nil w w.heap.size
  have c := Below.refl w.heap.size w
  replace S := S.boxAt c.size (w.heap.size) rfl #[.int .i64 0, .int .i64 0, .slice none 0 0] 38
  replace c := c.alloc c.size (.cells #[.int .i64 0, .int .i64 0, .slice none 0 0] 38)
  go_enter Try.func32, Try.ntmps32
  go_wp2_with fail
  generalize w.alloc (.cells #[.int .i64 0, .int .i64 0, .slice none 0 0] 38) = w1 at *
  refine (iLetIn_any A n cc w.heap.size d0 _ (HI.out.below c) c.size hn hnc hcm).mono ?_
  rintro e w2 ⟨v, rfl, hv, b⟩
  clear hn hnc hcm
  rcases ho : letInM d0 with _ | m
  · rw [ho] at hv
    have HEO := Lib.hid ho
    clear ho
    have hv' : v = .nilIface := hv
    subst hv'
    clear hv
    have q1 : ∀ w9, (Instr.typeAssert (.nilIface) 64 38 true).run Try.prog w9 = .ok (.tuple #[.agg #[.int .i64 0, .int .i64 0, .slice none 0 0], .bool false]) w9 := fun _ => by kernel_rfl
    replace c := c.trans (b.mono c.size)
    replace S := S.keep b
    clear b
    replace S := S.boxAt c.size (w2.heap.size) rfl #[.int .i64 0, .int .i64 0, .slice none 0 0] 38
    replace c := c.alloc c.size (.cells #[.int .i64 0, .int .i64 0, .slice none 0 0] 38)
    have f0 : (w2.alloc (.cells #[.int .i64 0, .int .i64 0, .slice none 0 0] 38)).cell? ⟨w2.heap.size, 0, none⟩ = some (.int .i64 0) := (S.at_ 0 rfl).cell 0
    have f1 := (S.at_ 0 rfl).free 0
    have f2 : (w2.alloc (.cells #[.int .i64 0, .int .i64 0, .slice none 0 0] 38)).cell? ⟨w2.heap.size, 1, none⟩ = some (.int .i64 0) := (S.at_ 0 rfl).cell 1
    have f3 := (S.at_ 0 rfl).free 1
    have f4 : (w2.alloc (.cells #[.int .i64 0, .int .i64 0, .slice none 0 0] 38)).cell? ⟨w2.heap.size, 2, none⟩ = some (.slice none 0 0) := (S.at_ 0 rfl).cell 2
    have f5 := (S.at_ 0 rfl).free 2
    have f6 : (w2.alloc (.cells #[.int .i64 0, .int .i64 0, .slice none 0 0] 38)).cell? ⟨w.heap.size, 0, none⟩ = some (.int .i64 0) := (S.at_ 1 rfl).cell 0
    have f7 := (S.at_ 1 rfl).free 0
    have f8 : (w2.alloc (.cells #[.int .i64 0, .int .i64 0, .slice none 0 0] 38)).cell? ⟨w.heap.size, 1, none⟩ = some (.int .i64 0) := (S.at_ 1 rfl).cell 1
    have f9 := (S.at_ 1 rfl).free 1
    have f10 : (w2.alloc (.cells #[.int .i64 0, .int .i64 0, .slice none 0 0] 38)).cell? ⟨w.heap.size, 2, none⟩ = some (.slice none 0 0) := (S.at_ 1 rfl).cell 2
    have f11 := (S.at_ 1 rfl).free 2
    replace S := S.put 1 rfl 0 (.int .i64 0)
    replace c := c.setCell (p := ⟨w.heap.size, 0, none⟩) (by show w.heap.size ≤ w.heap.size; omega) (.int .i64 0)
    replace S := S.put 1 rfl 1 (.int .i64 0)
    replace c := c.setCell (p := ⟨w.heap.size, 1, none⟩) (by show w.heap.size ≤ w.heap.size; omega) (.int .i64 0)
    replace S := S.put 1 rfl 2 (.slice none 0 0)
    replace c := c.setCell (p := ⟨w.heap.size, 2, none⟩) (by show w.heap.size ≤ w.heap.size; omega) (.slice none 0 0)
    have r0 := Lib.hid (show ((((w2.alloc (.cells #[.int .i64 0, .int .i64 0, .slice none 0 0] 38)).setCell ⟨w.heap.size, 0, none⟩ (.int .i64 0)).setCell ⟨w.heap.size, 1, none⟩ (.int .i64 0)).setCell ⟨w.heap.size, 2, none⟩ (.slice none 0 0)).cell? ⟨w.heap.size, 0, none⟩ = some (.int .i64 0) from (S.at_ 1 rfl).cell 0)
    have r1 := Lib.hid (show ((((w2.alloc (.cells #[.int .i64 0, .int .i64 0, .slice none 0 0] 38)).setCell ⟨w.heap.size, 0, none⟩ (.int .i64 0)).setCell ⟨w.heap.size, 1, none⟩ (.int .i64 0)).setCell ⟨w.heap.size, 2, none⟩ (.slice none 0 0)).cell? ⟨w.heap.size, 1, none⟩ = some (.int .i64 0) from (S.at_ 1 rfl).cell 1)
    have r2 := Lib.hid (show ((((w2.alloc (.cells #[.int .i64 0, .int .i64 0, .slice none 0 0] 38)).setCell ⟨w.heap.size, 0, none⟩ (.int .i64 0)).setCell ⟨w.heap.size, 1, none⟩ (.int .i64 0)).setCell ⟨w.heap.size, 2, none⟩ (.slice none 0 0)).cell? ⟨w.heap.size, 2, none⟩ = some (.slice none 0 0) from (S.at_ 1 rfl).cell 2)
    have CC := Lib.hid c
    clear S c
    go_wp2
    exact bodyPost_ret (v := .tuple #[.agg #[.int .i64 0, .int .i64 0, .slice none 0 0], .bool false]) (by simp [results, Try.results32, go_sem, r0.out, r1.out, r2.out]) rfl ⟨0, 0, none, 0, 0, by rw [HEO.out] <;> rfl, by rw [HEO.out]; exact Has.int (Has.int (has_nil_entsL _ _)), CC.out⟩
  · rcases m with a | a | a | a | a | a | a | a | a
    · rw [ho] at hv
      have HEO := Lib.hid ho
      clear ho
      obtain ⟨u, hu⟩ : ∃ u, v = .iface 107 u := ⟨_, hv⟩
      subst hu
      clear hv
      have q1 : ∀ w9, (Instr.typeAssert (.iface 107 u) 64 38 true).run Try.prog w9 = .ok (.tuple #[.agg #[.int .i64 0, .int .i64 0, .slice none 0 0], .bool false]) w9 := fun _ => by kernel_rfl
      replace c := c.trans (b.mono c.size)
      replace S := S.keep b
      clear b
      replace S := S.boxAt c.size (w2.heap.size) rfl #[.int .i64 0, .int .i64 0, .slice none 0 0] 38
      replace c := c.alloc c.size (.cells #[.int .i64 0, .int .i64 0, .slice none 0 0] 38)
      have f0 : (w2.alloc (.cells #[.int .i64 0, .int .i64 0, .slice none 0 0] 38)).cell? ⟨w2.heap.size, 0, none⟩ = some (.int .i64 0) := (S.at_ 0 rfl).cell 0
      have f1 := (S.at_ 0 rfl).free 0
      have f2 : (w2.alloc (.cells #[.int .i64 0, .int .i64 0, .slice none 0 0] 38)).cell? ⟨w2.heap.size, 1, none⟩ = some (.int .i64 0) := (S.at_ 0 rfl).cell 1
      have f3 := (S.at_ 0 rfl).free 1
      have f4 : (w2.alloc (.cells #[.int .i64 0, .int .i64 0, .slice none 0 0] 38)).cell? ⟨w2.heap.size, 2, none⟩ = some (.slice none 0 0) := (S.at_ 0 rfl).cell 2
      have f5 := (S.at_ 0 rfl).free 2
      have f6 : (w2.alloc (.cells #[.int .i64 0, .int .i64 0, .slice none 0 0] 38)).cell? ⟨w.heap.size, 0, none⟩ = some (.int .i64 0) := (S.at_ 1 rfl).cell 0
      have f7 := (S.at_ 1 rfl).free 0
      have f8 : (w2.alloc (.cells #[.int .i64 0, .int .i64 0, .slice none 0 0] 38)).cell? ⟨w.heap.size, 1, none⟩ = some (.int .i64 0) := (S.at_ 1 rfl).cell 1
      have f9 := (S.at_ 1 rfl).free 1
      have f10 : (w2.alloc (.cells #[.int .i64 0, .int .i64 0, .slice none 0 0] 38)).cell? ⟨w.heap.size, 2, none⟩ = some (.slice none 0 0) := (S.at_ 1 rfl).cell 2
      have f11 := (S.at_ 1 rfl).free 2
      replace S := S.put 1 rfl 0 (.int .i64 0)
      replace c := c.setCell (p := ⟨w.heap.size, 0, none⟩) (by show w.heap.size ≤ w.heap.size; omega) (.int .i64 0)
      replace S := S.put 1 rfl 1 (.int .i64 0)
      replace c := c.setCell (p := ⟨w.heap.size, 1, none⟩) (by show w.heap.size ≤ w.heap.size; omega) (.int .i64 0)
      replace S := S.put 1 rfl 2 (.slice none 0 0)
      replace c := c.setCell (p := ⟨w.heap.size, 2, none⟩) (by show w.heap.size ≤ w.heap.size; omega) (.slice none 0 0)
      have r0 := Lib.hid (show ((((w2.alloc (.cells #[.int .i64 0, .int .i64 0, .slice none 0 0] 38)).setCell ⟨w.heap.size, 0, none⟩ (.int .i64 0)).setCell ⟨w.heap.size, 1, none⟩ (.int .i64 0)).setCell ⟨w.heap.size, 2, none⟩ (.slice none 0 0)).cell? ⟨w.heap.size, 0, none⟩ = some (.int .i64 0) from (S.at_ 1 rfl).cell 0)
      have r1 := Lib.hid (show ((((w2.alloc (.cells #[.int .i64 0, .int .i64 0, .slice none 0 0] 38)).setCell ⟨w.heap.size, 0, none⟩ (.int .i64 0)).setCell ⟨w.heap.size, 1, none⟩ (.int .i64 0)).setCell ⟨w.heap.size, 2, none⟩ (.slice none 0 0)).cell? ⟨w.heap.size, 1, none⟩ = some (.int .i64 0) from (S.at_ 1 rfl).cell 1)
      have r2 := Lib.hid (show ((((w2.alloc (.cells #[.int .i64 0, .int .i64 0, .slice none 0 0] 38)).setCell ⟨w.heap.size, 0, none⟩ (.int .i64 0)).setCell ⟨w.heap.size, 1, none⟩ (.int .i64 0)).setCell ⟨w.heap.size, 2, none⟩ (.slice none 0 0)).cell? ⟨w.heap.size, 2, none⟩ = some (.slice none 0 0) from (S.at_ 1 rfl).cell 2)
      have CC := Lib.hid c
      clear S c
      go_wp2
      exact bodyPost_ret (v := .tuple #[.agg #[.int .i64 0, .int .i64 0, .slice none 0 0], .bool false]) (by simp [results, Try.results32, go_sem, r0.out, r1.out, r2.out]) rfl ⟨0, 0, none, 0, 0, by rw [HEO.out] <;> rfl, by rw [HEO.out]; exact Has.int (Has.int (has_nil_entsL _ _)), CC.out⟩
    · rw [ho] at hv
      have HEO := Lib.hid ho
      clear ho
      obtain ⟨u, hu⟩ : ∃ u, v = .iface 109 u := ⟨_, hv⟩
      subst hu
      clear hv
      have q1 : ∀ w9, (Instr.typeAssert (.iface 109 u) 64 38 true).run Try.prog w9 = .ok (.tuple #[.agg #[.int .i64 0, .int .i64 0, .slice none 0 0], .bool false]) w9 := fun _ => by kernel_rfl
      replace c := c.trans (b.mono c.size)
      replace S := S.keep b
      clear b
      replace S := S.boxAt c.size (w2.heap.size) rfl #[.int .i64 0, .int .i64 0, .slice none 0 0] 38
      replace c := c.alloc c.size (.cells #[.int .i64 0, .int .i64 0, .slice none 0 0] 38)
      have f0 : (w2.alloc (.cells #[.int .i64 0, .int .i64 0, .slice none 0 0] 38)).cell? ⟨w2.heap.size, 0, none⟩ = some (.int .i64 0) := (S.at_ 0 rfl).cell 0
      have f1 := (S.at_ 0 rfl).free 0
      have f2 : (w2.alloc (.cells #[.int .i64 0, .int .i64 0, .slice none 0 0] 38)).cell? ⟨w2.heap.size, 1, none⟩ = some (.int .i64 0) := (S.at_ 0 rfl).cell 1
      have f3 := (S.at_ 0 rfl).free 1
      have f4 : (w2.alloc (.cells #[.int .i64 0, .int .i64 0, .slice none 0 0] 38)).cell? ⟨w2.heap.size, 2, none⟩ = some (.slice none 0 0) := (S.at_ 0 rfl).cell 2
      have f5 := (S.at_ 0 rfl).free 2
      have f6 : (w2.alloc (.cells #[.int .i64 0, .int .i64 0, .slice none 0 0] 38)).cell? ⟨w.heap.size, 0, none⟩ = some (.int .i64 0) := (S.at_ 1 rfl).cell 0
      have f7 := (S.at_ 1 rfl).free 0
      have f8 : (w2.alloc (.cells #[.int .i64 0, .int .i64 0, .slice none 0 0] 38)).cell? ⟨w.heap.size, 1, none⟩ = some (.int .i64 0) := (S.at_ 1 rfl).cell 1
      have f9 := (S.at_ 1 rfl).free 1
      have f10 : (w2.alloc (.cells #[.int .i64 0, .int .i64 0, .slice none 0 0] 38)).cell? ⟨w.heap.size, 2, none⟩ = some (.slice none 0 0) := (S.at_ 1 rfl).cell 2
      have f11 := (S.at_ 1 rfl).free 2
      replace S := S.put 1 rfl 0 (.int .i64 0)
      replace c := c.setCell (p := ⟨w.heap.size, 0, none⟩) (by show w.heap.size ≤ w.heap.size; omega) (.int .i64 0)
      replace S := S.put 1 rfl 1 (.int .i64 0)
      replace c := c.setCell (p := ⟨w.heap.size, 1, none⟩) (by show w.heap.size ≤ w.heap.size; omega) (.int .i64 0)
      replace S := S.put 1 rfl 2 (.slice none 0 0)
      replace c := c.setCell (p := ⟨w.heap.size, 2, none⟩) (by show w.heap.size ≤ w.heap.size; omega) (.slice none 0 0)
      have r0 := Lib.hid (show ((((w2.alloc (.cells #[.int .i64 0, .int .i64 0, .slice none 0 0] 38)).setCell ⟨w.heap.size, 0, none⟩ (.int .i64 0)).setCell ⟨w.heap.size, 1, none⟩ (.int .i64 0)).setCell ⟨w.heap.size, 2, none⟩ (.slice none 0 0)).cell? ⟨w.heap.size, 0, none⟩ = some (.int .i64 0) from (S.at_ 1 rfl).cell 0)
      have r1 := Lib.hid (show ((((w2.alloc (.cells #[.int .i64 0, .int .i64 0, .slice none 0 0] 38)).setCell ⟨w.heap.size, 0, none⟩ (.int .i64 0)).setCell ⟨w.heap.size, 1, none⟩ (.int .i64 0)).setCell ⟨w.heap.size, 2, none⟩ (.slice none 0 0)).cell? ⟨w.heap.size, 1, none⟩ = some (.int .i64 0) from (S.at_ 1 rfl).cell 1)
      have r2 := Lib.hid (show ((((w2.alloc (.cells #[.int .i64 0, .int .i64 0, .slice none 0 0] 38)).setCell ⟨w.heap.size, 0, none⟩ (.int .i64 0)).setCell ⟨w.heap.size, 1, none⟩ (.int .i64 0)).setCell ⟨w.heap.size, 2, none⟩ (.slice none 0 0)).cell? ⟨w.heap.size, 2, none⟩ = some (.slice none 0 0) from (S.at_ 1 rfl).cell 2)
      have CC := Lib.hid c
      clear S c
      go_wp2
      exact bodyPost_ret (v := .tuple #[.agg #[.int .i64 0, .int .i64 0, .slice none 0 0], .bool false]) (by simp [results, Try.results32, go_sem, r0.out, r1.out, r2.out]) rfl ⟨0, 0, none, 0, 0, by rw [HEO.out] <;> rfl, by rw [HEO.out]; exact Has.int (Has.int (has_nil_entsL _ _)), CC.out⟩
    · rw [ho] at hv
      have HEO := Lib.hid ho
      clear ho
      obtain ⟨u, hu⟩ : ∃ u, v = .iface 110 u := ⟨_, hv⟩
      subst hu
      clear hv
      have q1 : ∀ w9, (Instr.typeAssert (.iface 110 u) 64 38 true).run Try.prog w9 = .ok (.tuple #[.agg #[.int .i64 0, .int .i64 0, .slice none 0 0], .bool false]) w9 := fun _ => by kernel_rfl
      replace c := c.trans (b.mono c.size)
      replace S := S.keep b
      clear b
      replace S := S.boxAt c.size (w2.heap.size) rfl #[.int .i64 0, .int .i64 0, .slice none 0 0] 38
      replace c := c.alloc c.size (.cells #[.int .i64 0, .int .i64 0, .slice none 0 0] 38)
      have f0 : (w2.alloc (.cells #[.int .i64 0, .int .i64 0, .slice none 0 0] 38)).cell? ⟨w2.heap.size, 0, none⟩ = some (.int .i64 0) := (S.at_ 0 rfl).cell 0
      have f1 := (S.at_ 0 rfl).free 0
      have f2 : (w2.alloc (.cells #[.int .i64 0, .int .i64 0, .slice none 0 0] 38)).cell? ⟨w2.heap.size, 1, none⟩ = some (.int .i64 0) := (S.at_ 0 rfl).cell 1
      have f3 := (S.at_ 0 rfl).free 1
      have f4 : (w2.alloc (.cells #[.int .i64 0, .int .i64 0, .slice none 0 0] 38)).cell? ⟨w2.heap.size, 2, none⟩ = some (.slice none 0 0) := (S.at_ 0 rfl).cell 2
      have f5 := (S.at_ 0 rfl).free 2
      have f6 : (w2.alloc (.cells #[.int .i64 0, .int .i64 0, .slice none 0 0] 38)).cell? ⟨w.heap.size, 0, none⟩ = some (.int .i64 0) := (S.at_ 1 rfl).cell 0
      have f7 := (S.at_ 1 rfl).free 0
      have f8 : (w2.alloc (.cells #[.int .i64 0, .int .i64 0, .slice none 0 0] 38)).cell? ⟨w.heap.size, 1, none⟩ = some (.int .i64 0) := (S.at_ 1 rfl).cell 1
      have f9 := (S.at_ 1 rfl).free 1
      have f10 : (w2.alloc (.cells #[.int .i64 0, .int .i64 0, .slice none 0 0] 38)).cell? ⟨w.heap.size, 2, none⟩ = some (.slice none 0 0) := (S.at_ 1 rfl).cell 2
      have f11 := (S.at_ 1 rfl).free 2
      replace S := S.put 1 rfl 0 (.int .i64 0)
      replace c := c.setCell (p := ⟨w.heap.size, 0, none⟩) (by show w.heap.size ≤ w.heap.size; omega) (.int .i64 0)
      replace S := S.put 1 rfl 1 (.int .i64 0)
      replace c := c.setCell (p := ⟨w.heap.size, 1, none⟩) (by show w.heap.size ≤ w.heap.size; omega) (.int .i64 0)
      replace S := S.put 1 rfl 2 (.slice none 0 0)
      replace c := c.setCell (p := ⟨w.heap.size, 2, none⟩) (by show w.heap.size ≤ w.heap.size; omega) (.slice none 0 0)
      have r0 := Lib.hid (show ((((w2.alloc (.cells #[.int .i64 0, .int .i64 0, .slice none 0 0] 38)).setCell ⟨w.heap.size, 0, none⟩ (.int .i64 0)).setCell ⟨w.heap.size, 1, none⟩ (.int .i64 0)).setCell ⟨w.heap.size, 2, none⟩ (.slice none 0 0)).cell? ⟨w.heap.size, 0, none⟩ = some (.int .i64 0) from (S.at_ 1 rfl).cell 0)
      have r1 := Lib.hid (show ((((w2.alloc (.cells #[.int .i64 0, .int .i64 0, .slice none 0 0] 38)).setCell ⟨w.heap.size, 0, none⟩ (.int .i64 0)).setCell ⟨w.heap.size, 1, none⟩ (.int .i64 0)).setCell ⟨w.heap.size, 2, none⟩ (.slice none 0 0)).cell? ⟨w.heap.size, 1, none⟩ = some (.int .i64 0) from (S.at_ 1 rfl).cell 1)
      have r2 := Lib.hid (show ((((w2.alloc (.cells #[.int .i64 0, .int .i64 0, .slice none 0 0] 38)).setCell ⟨w.heap.size, 0, none⟩ (.int .i64 0)).setCell ⟨w.heap.size, 1, none⟩ (.int .i64 0)).setCell ⟨w.heap.size, 2, none⟩ (.slice none 0 0)).cell? ⟨w.heap.size, 2, none⟩ = some (.slice none 0 0) from (S.at_ 1 rfl).cell 2)
      have CC := Lib.hid c
      clear S c
      go_wp2
      exact bodyPost_ret (v := .tuple #[.agg #[.int .i64 0, .int .i64 0, .slice none 0 0], .bool false]) (by simp [results, Try.results32, go_sem, r0.out, r1.out, r2.out]) rfl ⟨0, 0, none, 0, 0, by rw [HEO.out] <;> rfl, by rw [HEO.out]; exact Has.int (Has.int (has_nil_entsL _ _)), CC.out⟩
    · obtain ⟨x0, x1, l⟩ := a
      rw [ho] at hv
      have HEO := Lib.hid ho
      clear ho
      obtain ⟨G, m9, gc, hv', ho⟩ := hv
      have hv2 : v = .iface 38 (.agg #[.int .i64 x0, .int .i64 x1, .slice G m9 gc]) := hv'
      have o : Has w2 w1.heap.size [entD l] [.slice G m9 gc] := ho
      clear hv' ho
      subst hv2
      have q1 : ∀ w9, (Instr.typeAssert (.iface 38 (.agg #[.int .i64 x0, .int .i64 x1, .slice G m9 gc])) 64 38 true).run Try.prog w9 = .ok (.tuple #[.agg #[.int .i64 x0, .int .i64 x1, .slice G m9 gc], .bool true]) w9 := fun _ => by kernel_rfl
      obtain ⟨fp_u, S'⟩ := S.has b o c.size
      replace c := c.trans (b.mono c.size)
      clear S; have S := S'; clear S' o b
      replace S := S.boxAt c.size (w2.heap.size) rfl #[.int .i64 x0, .int .i64 x1, .slice G m9 gc] 38
      replace c := c.alloc c.size (.cells #[.int .i64 x0, .int .i64 x1, .slice G m9 gc] 38)
      have f0 : (w2.alloc (.cells #[.int .i64 x0, .int .i64 x1, .slice G m9 gc] 38)).cell? ⟨w2.heap.size, 0, none⟩ = some (.int .i64 x0) := (S.at_ 0 rfl).cell 0
      have f1 := (S.at_ 0 rfl).free 0
      have f2 : (w2.alloc (.cells #[.int .i64 x0, .int .i64 x1, .slice G m9 gc] 38)).cell? ⟨w2.heap.size, 1, none⟩ = some (.int .i64 x1) := (S.at_ 0 rfl).cell 1
      have f3 := (S.at_ 0 rfl).free 1
      have f4 : (w2.alloc (.cells #[.int .i64 x0, .int .i64 x1, .slice G m9 gc] 38)).cell? ⟨w2.heap.size, 2, none⟩ = some (.slice G m9 gc) := (S.at_ 0 rfl).cell 2
      have f5 := (S.at_ 0 rfl).free 2
      have f6 : (w2.alloc (.cells #[.int .i64 x0, .int .i64 x1, .slice G m9 gc] 38)).cell? ⟨w.heap.size, 0, none⟩ = some (.int .i64 0) := (S.at_ 2 rfl).cell 0
      have f7 := (S.at_ 2 rfl).free 0
      have f8 : (w2.alloc (.cells #[.int .i64 x0, .int .i64 x1, .slice G m9 gc] 38)).cell? ⟨w.heap.size, 1, none⟩ = some (.int .i64 0) := (S.at_ 2 rfl).cell 1
      have f9 := (S.at_ 2 rfl).free 1
      have f10 : (w2.alloc (.cells #[.int .i64 x0, .int .i64 x1, .slice G m9 gc] 38)).cell? ⟨w.heap.size, 2, none⟩ = some (.slice none 0 0) := (S.at_ 2 rfl).cell 2
      have f11 := (S.at_ 2 rfl).free 2
      replace S := S.put 2 rfl 0 (.int .i64 x0)
      replace c := c.setCell (p := ⟨w.heap.size, 0, none⟩) (by show w.heap.size ≤ w.heap.size; omega) (.int .i64 x0)
      replace S := S.put 2 rfl 1 (.int .i64 x1)
      replace c := c.setCell (p := ⟨w.heap.size, 1, none⟩) (by show w.heap.size ≤ w.heap.size; omega) (.int .i64 x1)
      replace S := S.put 2 rfl 2 (.slice G m9 gc)
      replace c := c.setCell (p := ⟨w.heap.size, 2, none⟩) (by show w.heap.size ≤ w.heap.size; omega) (.slice G m9 gc)
      have r0 := Lib.hid (show ((((w2.alloc (.cells #[.int .i64 x0, .int .i64 x1, .slice G m9 gc] 38)).setCell ⟨w.heap.size, 0, none⟩ (.int .i64 x0)).setCell ⟨w.heap.size, 1, none⟩ (.int .i64 x1)).setCell ⟨w.heap.size, 2, none⟩ (.slice G m9 gc)).cell? ⟨w.heap.size, 0, none⟩ = some (.int .i64 x0) from (S.at_ 2 rfl).cell 0)
      have r1 := Lib.hid (show ((((w2.alloc (.cells #[.int .i64 x0, .int .i64 x1, .slice G m9 gc] 38)).setCell ⟨w.heap.size, 0, none⟩ (.int .i64 x0)).setCell ⟨w.heap.size, 1, none⟩ (.int .i64 x1)).setCell ⟨w.heap.size, 2, none⟩ (.slice G m9 gc)).cell? ⟨w.heap.size, 1, none⟩ = some (.int .i64 x1) from (S.at_ 2 rfl).cell 1)
      have r2 := Lib.hid (show ((((w2.alloc (.cells #[.int .i64 x0, .int .i64 x1, .slice G m9 gc] 38)).setCell ⟨w.heap.size, 0, none⟩ (.int .i64 x0)).setCell ⟨w.heap.size, 1, none⟩ (.int .i64 x1)).setCell ⟨w.heap.size, 2, none⟩ (.slice G m9 gc)).cell? ⟨w.heap.size, 2, none⟩ = some (.slice G m9 gc) from (S.at_ 2 rfl).cell 2)
      have CC := Lib.hid c
      have H := Lib.hid ((S.pick 1 rfl).first)
      clear S c
      go_wp2
      exact bodyPost_ret (v := .tuple #[.agg #[.int .i64 x0, .int .i64 x1, .slice G m9 gc], .bool true]) (by simp [results, Try.results32, go_sem, r0.out, r1.out, r2.out]) rfl ⟨x0, x1, G, m9, gc, by rw [HEO.out] <;> rfl, by rw [HEO.out]; exact Has.int (Has.int (H.out)), CC.out⟩
    · rw [ho] at hv
      have HEO := Lib.hid ho
      clear ho
      obtain ⟨u, hu⟩ : ∃ u, v = .iface 111 u := ⟨_, hv⟩
      subst hu
      clear hv
      have q1 : ∀ w9, (Instr.typeAssert (.iface 111 u) 64 38 true).run Try.prog w9 = .ok (.tuple #[.agg #[.int .i64 0, .int .i64 0, .slice none 0 0], .bool false]) w9 := fun _ => by kernel_rfl
      replace c := c.trans (b.mono c.size)
      replace S := S.keep b
      clear b
      replace S := S.boxAt c.size (w2.heap.size) rfl #[.int .i64 0, .int .i64 0, .slice none 0 0] 38
      replace c := c.alloc c.size (.cells #[.int .i64 0, .int .i64 0, .slice none 0 0] 38)
      have f0 : (w2.alloc (.cells #[.int .i64 0, .int .i64 0, .slice none 0 0] 38)).cell? ⟨w2.heap.size, 0, none⟩ = some (.int .i64 0) := (S.at_ 0 rfl).cell 0
      have f1 := (S.at_ 0 rfl).free 0
      have f2 : (w2.alloc (.cells #[.int .i64 0, .int .i64 0, .slice none 0 0] 38)).cell? ⟨w2.heap.size, 1, none⟩ = some (.int .i64 0) := (S.at_ 0 rfl).cell 1
      have f3 := (S.at_ 0 rfl).free 1
      have f4 : (w2.alloc (.cells #[.int .i64 0, .int .i64 0, .slice none 0 0] 38)).cell? ⟨w2.heap.size, 2, none⟩ = some (.slice none 0 0) := (S.at_ 0 rfl).cell 2
      have f5 := (S.at_ 0 rfl).free 2
      have f6 : (w2.alloc (.cells #[.int .i64 0, .int .i64 0, .slice none 0 0] 38)).cell? ⟨w.heap.size, 0, none⟩ = some (.int .i64 0) := (S.at_ 1 rfl).cell 0
      have f7 := (S.at_ 1 rfl).free 0
      have f8 : (w2.alloc (.cells #[.int .i64 0, .int .i64 0, .slice none 0 0] 38)).cell? ⟨w.heap.size, 1, none⟩ = some (.int .i64 0) := (S.at_ 1 rfl).cell 1
      have f9 := (S.at_ 1 rfl).free 1
      have f10 : (w2.alloc (.cells #[.int .i64 0, .int .i64 0, .slice none 0 0] 38)).cell? ⟨w.heap.size, 2, none⟩ = some (.slice none 0 0) := (S.at_ 1 rfl).cell 2
      have f11 := (S.at_ 1 rfl).free 2
      replace S := S.put 1 rfl 0 (.int .i64 0)
      replace c := c.setCell (p := ⟨w.heap.size, 0, none⟩) (by show w.heap.size ≤ w.heap.size; omega) (.int .i64 0)
      replace S := S.put 1 rfl 1 (.int .i64 0)
      replace c := c.setCell (p := ⟨w.heap.size, 1, none⟩) (by show w.heap.size ≤ w.heap.size; omega) (.int .i64 0)
      replace S := S.put 1 rfl 2 (.slice none 0 0)
      replace c := c.setCell (p := ⟨w.heap.size, 2, none⟩) (by show w.heap.size ≤ w.heap.size; omega) (.slice none 0 0)
      have r0 := Lib.hid (show ((((w2.alloc (.cells #[.int .i64 0, .int .i64 0, .slice none 0 0] 38)).setCell ⟨w.heap.size, 0, none⟩ (.int .i64 0)).setCell ⟨w.heap.size, 1, none⟩ (.int .i64 0)).setCell ⟨w.heap.size, 2, none⟩ (.slice none 0 0)).cell? ⟨w.heap.size, 0, none⟩ = some (.int .i64 0) from (S.at_ 1 rfl).cell 0)
      have r1 := Lib.hid (show ((((w2.alloc (.cells #[.int .i64 0, .int .i64 0, .slice none 0 0] 38)).setCell ⟨w.heap.size, 0, none⟩ (.int .i64 0)).setCell ⟨w.heap.size, 1, none⟩ (.int .i64 0)).setCell ⟨w.heap.size, 2, none⟩ (.slice none 0 0)).cell? ⟨w.heap.size, 1, none⟩ = some (.int .i64 0) from (S.at_ 1 rfl).cell 1)
      have r2 := Lib.hid (show ((((w2.alloc (.cells #[.int .i64 0, .int .i64 0, .slice none 0 0] 38)).setCell ⟨w.heap.size, 0, none⟩ (.int .i64 0)).setCell ⟨w.heap.size, 1, none⟩ (.int .i64 0)).setCell ⟨w.heap.size, 2, none⟩ (.slice none 0 0)).cell? ⟨w.heap.size, 2, none⟩ = some (.slice none 0 0) from (S.at_ 1 rfl).cell 2)
      have CC := Lib.hid c
      clear S c
      go_wp2
      exact bodyPost_ret (v := .tuple #[.agg #[.int .i64 0, .int .i64 0, .slice none 0 0], .bool false]) (by simp [results, Try.results32, go_sem, r0.out, r1.out, r2.out]) rfl ⟨0, 0, none, 0, 0, by rw [HEO.out] <;> rfl, by rw [HEO.out]; exact Has.int (Has.int (has_nil_entsL _ _)), CC.out⟩
    · rw [ho] at hv
      have HEO := Lib.hid ho
      clear ho
      obtain ⟨u, hu⟩ : ∃ u, v = .iface 113 u := ⟨_, hv⟩
      subst hu
      clear hv
      have q1 : ∀ w9, (Instr.typeAssert (.iface 113 u) 64 38 true).run Try.prog w9 = .ok (.tuple #[.agg #[.int .i64 0, .int .i64 0, .slice none 0 0], .bool false]) w9 := fun _ => by kernel_rfl
      replace c := c.trans (b.mono c.size)
      replace S := S.keep b
      clear b
      replace S := S.boxAt c.size (w2.heap.size) rfl #[.int .i64 0, .int .i64 0, .slice none 0 0] 38
      replace c := c.alloc c.size (.cells #[.int .i64 0, .int .i64 0, .slice none 0 0] 38)
      have f0 : (w2.alloc (.cells #[.int .i64 0, .int .i64 0, .slice none 0 0] 38)).cell? ⟨w2.heap.size, 0, none⟩ = some (.int .i64 0) := (S.at_ 0 rfl).cell 0
      have f1 := (S.at_ 0 rfl).free 0
      have f2 : (w2.alloc (.cells #[.int .i64 0, .int .i64 0, .slice none 0 0] 38)).cell? ⟨w2.heap.size, 1, none⟩ = some (.int .i64 0) := (S.at_ 0 rfl).cell 1
      have f3 := (S.at_ 0 rfl).free 1
      have f4 : (w2.alloc (.cells #[.int .i64 0, .int .i64 0, .slice none 0 0] 38)).cell? ⟨w2.heap.size, 2, none⟩ = some (.slice none 0 0) := (S.at_ 0 rfl).cell 2
      have f5 := (S.at_ 0 rfl).free 2
      have f6 : (w2.alloc (.cells #[.int .i64 0, .int .i64 0, .slice none 0 0] 38)).cell? ⟨w.heap.size, 0, none⟩ = some (.int .i64 0) := (S.at_ 1 rfl).cell 0
      have f7 := (S.at_ 1 rfl).free 0
      have f8 : (w2.alloc (.cells #[.int .i64 0, .int .i64 0, .slice none 0 0] 38)).cell? ⟨w.heap.size, 1, none⟩ = some (.int .i64 0) := (S.at_ 1 rfl).cell 1
      have f9 := (S.at_ 1 rfl).free 1
      have f10 : (w2.alloc (.cells #[.int .i64 0, .int .i64 0, .slice none 0 0] 38)).cell? ⟨w.heap.size, 2, none⟩ = some (.slice none 0 0) := (S.at_ 1 rfl).cell 2
      have f11 := (S.at_ 1 rfl).free 2
      replace S := S.put 1 rfl 0 (.int .i64 0)
      replace c := c.setCell (p := ⟨w.heap.size, 0, none⟩) (by show w.heap.size ≤ w.heap.size; omega) (.int .i64 0)
      replace S := S.put 1 rfl 1 (.int .i64 0)
      replace c := c.setCell (p := ⟨w.heap.size, 1, none⟩) (by show w.heap.size ≤ w.heap.size; omega) (.int .i64 0)
      replace S := S.put 1 rfl 2 (.slice none 0 0)
      replace c := c.setCell (p := ⟨w.heap.size, 2, none⟩) (by show w.heap.size ≤ w.heap.size; omega) (.slice none 0 0)
      have r0 := Lib.hid (show ((((w2.alloc (.cells #[.int .i64 0, .int .i64 0, .slice none 0 0] 38)).setCell ⟨w.heap.size, 0, none⟩ (.int .i64 0)).setCell ⟨w.heap.size, 1, none⟩ (.int .i64 0)).setCell ⟨w.heap.size, 2, none⟩ (.slice none 0 0)).cell? ⟨w.heap.size, 0, none⟩ = some (.int .i64 0) from (S.at_ 1 rfl).cell 0)
      have r1 := Lib.hid (show ((((w2.alloc (.cells #[.int .i64 0, .int .i64 0, .slice none 0 0] 38)).setCell ⟨w.heap.size, 0, none⟩ (.int .i64 0)).setCell ⟨w.heap.size, 1, none⟩ (.int .i64 0)).setCell ⟨w.heap.size, 2, none⟩ (.slice none 0 0)).cell? ⟨w.heap.size, 1, none⟩ = some (.int .i64 0) from (S.at_ 1 rfl).cell 1)
      have r2 := Lib.hid (show ((((w2.alloc (.cells #[.int .i64 0, .int .i64 0, .slice none 0 0] 38)).setCell ⟨w.heap.size, 0, none⟩ (.int .i64 0)).setCell ⟨w.heap.size, 1, none⟩ (.int .i64 0)).setCell ⟨w.heap.size, 2, none⟩ (.slice none 0 0)).cell? ⟨w.heap.size, 2, none⟩ = some (.slice none 0 0) from (S.at_ 1 rfl).cell 2)
      have CC := Lib.hid c
      clear S c
      go_wp2
      exact bodyPost_ret (v := .tuple #[.agg #[.int .i64 0, .int .i64 0, .slice none 0 0], .bool false]) (by simp [results, Try.results32, go_sem, r0.out, r1.out, r2.out]) rfl ⟨0, 0, none, 0, 0, by rw [HEO.out] <;> rfl, by rw [HEO.out]; exact Has.int (Has.int (has_nil_entsL _ _)), CC.out⟩
    · rw [ho] at hv
      have HEO := Lib.hid ho
      clear ho
      obtain ⟨u, hu⟩ : ∃ u, v = .iface 115 u := ⟨_, hv⟩
      subst hu
      clear hv
      have q1 : ∀ w9, (Instr.typeAssert (.iface 115 u) 64 38 true).run Try.prog w9 = .ok (.tuple #[.agg #[.int .i64 0, .int .i64 0, .slice none 0 0], .bool false]) w9 := fun _ => by kernel_rfl
      replace c := c.trans (b.mono c.size)
      replace S := S.keep b
      clear b
      replace S := S.boxAt c.size (w2.heap.size) rfl #[.int .i64 0, .int .i64 0, .slice none 0 0] 38
      replace c := c.alloc c.size (.cells #[.int .i64 0, .int .i64 0, .slice none 0 0] 38)
      have f0 : (w2.alloc (.cells #[.int .i64 0, .int .i64 0, .slice none 0 0] 38)).cell? ⟨w2.heap.size, 0, none⟩ = some (.int .i64 0) := (S.at_ 0 rfl).cell 0
      have f1 := (S.at_ 0 rfl).free 0
      have f2 : (w2.alloc (.cells #[.int .i64 0, .int .i64 0, .slice none 0 0] 38)).cell? ⟨w2.heap.size, 1, none⟩ = some (.int .i64 0) := (S.at_ 0 rfl).cell 1
      have f3 := (S.at_ 0 rfl).free 1
      have f4 : (w2.alloc (.cells #[.int .i64 0, .int .i64 0, .slice none 0 0] 38)).cell? ⟨w2.heap.size, 2, none⟩ = some (.slice none 0 0) := (S.at_ 0 rfl).cell 2
      have f5 := (S.at_ 0 rfl).free 2
      have f6 : (w2.alloc (.cells #[.int .i64 0, .int .i64 0, .slice none 0 0] 38)).cell? ⟨w.heap.size, 0, none⟩ = some (.int .i64 0) := (S.at_ 1 rfl).cell 0
      have f7 := (S.at_ 1 rfl).free 0
      have f8 : (w2.alloc (.cells #[.int .i64 0, .int .i64 0, .slice none 0 0] 38)).cell? ⟨w.heap.size, 1, none⟩ = some (.int .i64 0) := (S.at_ 1 rfl).cell 1
      have f9 := (S.at_ 1 rfl).free 1
      have f10 : (w2.alloc (.cells #[.int .i64 0, .int .i64 0, .slice none 0 0] 38)).cell? ⟨w.heap.size, 2, none⟩ = some (.slice none 0 0) := (S.at_ 1 rfl).cell 2
      have f11 := (S.at_ 1 rfl).free 2
      replace S := S.put 1 rfl 0 (.int .i64 0)
      replace c := c.setCell (p := ⟨w.heap.size, 0, none⟩) (by show w.heap.size ≤ w.heap.size; omega) (.int .i64 0)
      replace S := S.put 1 rfl 1 (.int .i64 0)
      replace c := c.setCell (p := ⟨w.heap.size, 1, none⟩) (by show w.heap.size ≤ w.heap.size; omega) (.int .i64 0)
      replace S := S.put 1 rfl 2 (.slice none 0 0)
      replace c := c.setCell (p := ⟨w.heap.size, 2, none⟩) (by show w.heap.size ≤ w.heap.size; omega) (.slice none 0 0)
      have r0 := Lib.hid (show ((((w2.alloc (.cells #[.int .i64 0, .int .i64 0, .slice none 0 0] 38)).setCell ⟨w.heap.size, 0, none⟩ (.int .i64 0)).setCell ⟨w.heap.size, 1, none⟩ (.int .i64 0)).setCell ⟨w.heap.size, 2, none⟩ (.slice none 0 0)).cell? ⟨w.heap.size, 0, none⟩ = some (.int .i64 0) from (S.at_ 1 rfl).cell 0)
      have r1 := Lib.hid (show ((((w2.alloc (.cells #[.int .i64 0, .int .i64 0, .slice none 0 0] 38)).setCell ⟨w.heap.size, 0, none⟩ (.int .i64 0)).setCell ⟨w.heap.size, 1, none⟩ (.int .i64 0)).setCell ⟨w.heap.size, 2, none⟩ (.slice none 0 0)).cell? ⟨w.heap.size, 1, none⟩ = some (.int .i64 0) from (S.at_ 1 rfl).cell 1)
      have r2 := Lib.hid (show ((((w2.alloc (.cells #[.int .i64 0, .int .i64 0, .slice none 0 0] 38)).setCell ⟨w.heap.size, 0, none⟩ (.int .i64 0)).setCell ⟨w.heap.size, 1, none⟩ (.int .i64 0)).setCell ⟨w.heap.size, 2, none⟩ (.slice none 0 0)).cell? ⟨w.heap.size, 2, none⟩ = some (.slice none 0 0) from (S.at_ 1 rfl).cell 2)
      have CC := Lib.hid c
      clear S c
      go_wp2
      exact bodyPost_ret (v := .tuple #[.agg #[.int .i64 0, .int .i64 0, .slice none 0 0], .bool false]) (by simp [results, Try.results32, go_sem, r0.out, r1.out, r2.out]) rfl ⟨0, 0, none, 0, 0, by rw [HEO.out] <;> rfl, by rw [HEO.out]; exact Has.int (Has.int (has_nil_entsL _ _)), CC.out⟩
    · rw [ho] at hv
      have HEO := Lib.hid ho
      clear ho
      obtain ⟨u, hu⟩ : ∃ u, v = .iface 60 u := ⟨_, hv⟩
      subst hu
      clear hv
      have q1 : ∀ w9, (Instr.typeAssert (.iface 60 u) 64 38 true).run Try.prog w9 = .ok (.tuple #[.agg #[.int .i64 0, .int .i64 0, .slice none 0 0], .bool false]) w9 := fun _ => by kernel_rfl
      replace c := c.trans (b.mono c.size)
      replace S := S.keep b
      clear b
      replace S := S.boxAt c.size (w2.heap.size) rfl #[.int .i64 0, .int .i64 0, .slice none 0 0] 38
      replace c := c.alloc c.size (.cells #[.int .i64 0, .int .i64 0, .slice none 0 0] 38)
      have f0 : (w2.alloc (.cells #[.int .i64 0, .int .i64 0, .slice none 0 0] 38)).cell? ⟨w2.heap.size, 0, none⟩ = some (.int .i64 0) := (S.at_ 0 rfl).cell 0
      have f1 := (S.at_ 0 rfl).free 0
      have f2 : (w2.alloc (.cells #[.int .i64 0, .int .i64 0, .slice none 0 0] 38)).cell? ⟨w2.heap.size, 1, none⟩ = some (.int .i64 0) := (S.at_ 0 rfl).cell 1
      have f3 := (S.at_ 0 rfl).free 1
      have f4 : (w2.alloc (.cells #[.int .i64 0, .int .i64 0, .slice none 0 0] 38)).cell? ⟨w2.heap.size, 2, none⟩ = some (.slice none 0 0) := (S.at_ 0 rfl).cell 2
      have f5 := (S.at_ 0 rfl).free 2
      have f6 : (w2.alloc (.cells #[.int .i64 0, .int .i64 0, .slice none 0 0] 38)).cell? ⟨w.heap.size, 0, none⟩ = some (.int .i64 0) := (S.at_ 1 rfl).cell 0
      have f7 := (S.at_ 1 rfl).free 0
      have f8 : (w2.alloc (.cells #[.int .i64 0, .int .i64 0, .slice none 0 0] 38)).cell? ⟨w.heap.size, 1, none⟩ = some (.int .i64 0) := (S.at_ 1 rfl).cell 1
      have f9 := (S.at_ 1 rfl).free 1
      have f10 : (w2.alloc (.cells #[.int .i64 0, .int .i64 0, .slice none 0 0] 38)).cell? ⟨w.heap.size, 2, none⟩ = some (.slice none 0 0) := (S.at_ 1 rfl).cell 2
      have f11 := (S.at_ 1 rfl).free 2
      replace S := S.put 1 rfl 0 (.int .i64 0)
      replace c := c.setCell (p := ⟨w.heap.size, 0, none⟩) (by show w.heap.size ≤ w.heap.size; omega) (.int .i64 0)
      replace S := S.put 1 rfl 1 (.int .i64 0)
      replace c := c.setCell (p := ⟨w.heap.size, 1, none⟩) (by show w.heap.size ≤ w.heap.size; omega) (.int .i64 0)
      replace S := S.put 1 rfl 2 (.slice none 0 0)
      replace c := c.setCell (p := ⟨w.heap.size, 2, none⟩) (by show w.heap.size ≤ w.heap.size; omega) (.slice none 0 0)
      have r0 := Lib.hid (show ((((w2.alloc (.cells #[.int .i64 0, .int .i64 0, .slice none 0 0] 38)).setCell ⟨w.heap.size, 0, none⟩ (.int .i64 0)).setCell ⟨w.heap.size, 1, none⟩ (.int .i64 0)).setCell ⟨w.heap.size, 2, none⟩ (.slice none 0 0)).cell? ⟨w.heap.size, 0, none⟩ = some (.int .i64 0) from (S.at_ 1 rfl).cell 0)
      have r1 := Lib.hid (show ((((w2.alloc (.cells #[.int .i64 0, .int .i64 0, .slice none 0 0] 38)).setCell ⟨w.heap.size, 0, none⟩ (.int .i64 0)).setCell ⟨w.heap.size, 1, none⟩ (.int .i64 0)).setCell ⟨w.heap.size, 2, none⟩ (.slice none 0 0)).cell? ⟨w.heap.size, 1, none⟩ = some (.int .i64 0) from (S.at_ 1 rfl).cell 1)
      have r2 := Lib.hid (show ((((w2.alloc (.cells #[.int .i64 0, .int .i64 0, .slice none 0 0] 38)).setCell ⟨w.heap.size, 0, none⟩ (.int .i64 0)).setCell ⟨w.heap.size, 1, none⟩ (.int .i64 0)).setCell ⟨w.heap.size, 2, none⟩ (.slice none 0 0)).cell? ⟨w.heap.size, 2, none⟩ = some (.slice none 0 0) from (S.at_ 1 rfl).cell 2)
      have CC := Lib.hid c
      clear S c
      go_wp2
      exact bodyPost_ret (v := .tuple #[.agg #[.int .i64 0, .int .i64 0, .slice none 0 0], .bool false]) (by simp [results, Try.results32, go_sem, r0.out, r1.out, r2.out]) rfl ⟨0, 0, none, 0, 0, by rw [HEO.out] <;> rfl, by rw [HEO.out]; exact Has.int (Has.int (has_nil_entsL _ _)), CC.out⟩
    · rw [ho] at hv
      have HEO := Lib.hid ho
      clear ho
      obtain ⟨_, _, _, hv, _⟩ := hv
      obtain ⟨u, hu⟩ : ∃ u, v = .iface 51 u := ⟨_, hv⟩
      subst hu
      clear hv
      have q1 : ∀ w9, (Instr.typeAssert (.iface 51 u) 64 38 true).run Try.prog w9 = .ok (.tuple #[.agg #[.int .i64 0, .int .i64 0, .slice none 0 0], .bool false]) w9 := fun _ => by kernel_rfl
      replace c := c.trans (b.mono c.size)
      replace S := S.keep b
      clear b
      replace S := S.boxAt c.size (w2.heap.size) rfl #[.int .i64 0, .int .i64 0, .slice none 0 0] 38
      replace c := c.alloc c.size (.cells #[.int .i64 0, .int .i64 0, .slice none 0 0] 38)
      have f0 : (w2.alloc (.cells #[.int .i64 0, .int .i64 0, .slice none 0 0] 38)).cell? ⟨w2.heap.size, 0, none⟩ = some (.int .i64 0) := (S.at_ 0 rfl).cell 0
      have f1 := (S.at_ 0 rfl).free 0
      have f2 : (w2.alloc (.cells #[.int .i64 0, .int .i64 0, .slice none 0 0] 38)).cell? ⟨w2.heap.size, 1, none⟩ = some (.int .i64 0) := (S.at_ 0 rfl).cell 1
      have f3 := (S.at_ 0 rfl).free 1
      have f4 : (w2.alloc (.cells #[.int .i64 0, .int .i64 0, .slice none 0 0] 38)).cell? ⟨w2.heap.size, 2, none⟩ = some (.slice none 0 0) := (S.at_ 0 rfl).cell 2
      have f5 := (S.at_ 0 rfl).free 2
      have f6 : (w2.alloc (.cells #[.int .i64 0, .int .i64 0, .slice none 0 0] 38)).cell? ⟨w.heap.size, 0, none⟩ = some (.int .i64 0) := (S.at_ 1 rfl).cell 0
      have f7 := (S.at_ 1 rfl).free 0
      have f8 : (w2.alloc (.cells #[.int .i64 0, .int .i64 0, .slice none 0 0] 38)).cell? ⟨w.heap.size, 1, none⟩ = some (.int .i64 0) := (S.at_ 1 rfl).cell 1
      have f9 := (S.at_ 1 rfl).free 1
      have f10 : (w2.alloc (.cells #[.int .i64 0, .int .i64 0, .slice none 0 0] 38)).cell? ⟨w.heap.size, 2, none⟩ = some (.slice none 0 0) := (S.at_ 1 rfl).cell 2
      have f11 := (S.at_ 1 rfl).free 2
      replace S := S.put 1 rfl 0 (.int .i64 0)
      replace c := c.setCell (p := ⟨w.heap.size, 0, none⟩) (by show w.heap.size ≤ w.heap.size; omega) (.int .i64 0)
      replace S := S.put 1 rfl 1 (.int .i64 0)
      replace c := c.setCell (p := ⟨w.heap.size, 1, none⟩) (by show w.heap.size ≤ w.heap.size; omega) (.int .i64 0)
      replace S := S.put 1 rfl 2 (.slice none 0 0)
      replace c := c.setCell (p := ⟨w.heap.size, 2, none⟩) (by show w.heap.size ≤ w.heap.size; omega) (.slice none 0 0)
      have r0 := Lib.hid (show ((((w2.alloc (.cells #[.int .i64 0, .int .i64 0, .slice none 0 0] 38)).setCell ⟨w.heap.size, 0, none⟩ (.int .i64 0)).setCell ⟨w.heap.size, 1, none⟩ (.int .i64 0)).setCell ⟨w.heap.size, 2, none⟩ (.slice none 0 0)).cell? ⟨w.heap.size, 0, none⟩ = some (.int .i64 0) from (S.at_ 1 rfl).cell 0)
      have r1 := Lib.hid (show ((((w2.alloc (.cells #[.int .i64 0, .int .i64 0, .slice none 0 0] 38)).setCell ⟨w.heap.size, 0, none⟩ (.int .i64 0)).setCell ⟨w.heap.size, 1, none⟩ (.int .i64 0)).setCell ⟨w.heap.size, 2, none⟩ (.slice none 0 0)).cell? ⟨w.heap.size, 1, none⟩ = some (.int .i64 0) from (S.at_ 1 rfl).cell 1)
      have r2 := Lib.hid (show ((((w2.alloc (.cells #[.int .i64 0, .int .i64 0, .slice none 0 0] 38)).setCell ⟨w.heap.size, 0, none⟩ (.int .i64 0)).setCell ⟨w.heap.size, 1, none⟩ (.int .i64 0)).setCell ⟨w.heap.size, 2, none⟩ (.slice none 0 0)).cell? ⟨w.heap.size, 2, none⟩ = some (.slice none 0 0) from (S.at_ 1 rfl).cell 2)
      have CC := Lib.hid c
      clear S c
      go_wp2
      exact bodyPost_ret (v := .tuple #[.agg #[.int .i64 0, .int .i64 0, .slice none 0 0], .bool false]) (by simp [results, Try.results32, go_sem, r0.out, r1.out, r2.out]) rfl ⟨0, 0, none, 0, 0, by rw [HEO.out] <;> rfl, by rw [HEO.out]; exact Has.int (Has.int (has_nil_entsL _ _)), CC.out⟩

end Go.Proofs.Ytafbjmhjjbfaeaa

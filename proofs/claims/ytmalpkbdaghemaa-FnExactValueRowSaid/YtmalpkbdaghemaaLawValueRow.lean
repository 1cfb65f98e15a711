/-
  The exact law of ValueRow over contracts of the model and of the program (by program, wip/gen/genletl.py).
-/
import Derived.Test.YtmalpkbdaghemaaLet
import Derived.RegionTactic
namespace Go.Proofs.Ytmalpkbdaghemaa
set_option maxRecDepth 100000
open Go.RowKit

set_option maxHeartbeats 12800000 in
theorem lawValueRow (f : ValueM → List Int) (hf0 : ∀ d, (f d).length ≤ 1048577)
    (hs : ∀ (x0 x1 x2 x3 x4 : Int) (w : World), Calls Try.prog 25 #[.agg #[.int .i64 x0, .int .i64 x1, .int .i64 x2, .int .i64 x3, .int .i64 x4]] w (fun e w' => ∃ (A : Option Addr) (n c : Nat), e = .returned (.slice A n c) ∧ Has w' w.heap.size (rowCells (f ⟨x0, x1, x2, x3, x4⟩)) [.slice A n c] ∧ Below w.heap.size w w'))
    (hi : ∀ (x0 x1 x2 x3 x4 : Int) (w : World), Calls Try.prog 27 #[.agg #[.int .i64 x0, .int .i64 x1, .int .i64 x2, .int .i64 x3, .int .i64 x4]] w (fun e w' => ∃ (A : Option Addr) (n c : Nat), e = .returned (.slice A n c) ∧ Has w' w.heap.size (rowCells (f ⟨x0, x1, x2, x3, x4⟩)) [.slice A n c] ∧ Below w.heap.size w w'))
    (x0 x1 x2 x3 x4 : Int) (w : World) :
    Calls Try.prog 8 #[.agg #[.int .i64 x0, .int .i64 x1, .int .i64 x2, .int .i64 x3, .int .i64 x4]] w fun e w' => e = .returned (.bool true) ∧ Below w.heap.size w w' := by
  have SP := Lib.hid hs
  have IM := Lib.hid hi
  clear hs hi
  have S := Sep.nil w w.heap.size
  have c := Below.refl w.heap.size w
  replace S := S.boxAt c.size (w.heap.size) rfl #[.int .i64 x0, .int .i64 x1, .int .i64 x2, .int .i64 x3, .int .i64 x4] 50
  replace c := c.alloc c.size (.cells #[.int .i64 x0, .int .i64 x1, .int .i64 x2, .int .i64 x3, .int .i64 x4] 50)
  go_enter Try.func8, Try.ntmps8
  obtain ⟨fx0, hfx0⟩ : ∃ q, q = (f ⟨x0, x1, x2, x3, x4⟩) := ⟨_, rfl⟩
  have hfz0 := hf0 ⟨x0, x1, x2, x3, x4⟩
  rw [← hfx0] at hfz0
  have HFX0 := Lib.hid hfx0
  clear hfx0
  have f0 : (w.alloc (.cells #[.int .i64 x0, .int .i64 x1, .int .i64 x2, .int .i64 x3, .int .i64 x4] 50)).cell? ⟨w.heap.size, 0, none⟩ = some (.int .i64 x0) := (S.at_ 0 rfl).cell 0
  have f1 : (w.alloc (.cells #[.int .i64 x0, .int .i64 x1, .int .i64 x2, .int .i64 x3, .int .i64 x4] 50)).cell? ⟨w.heap.size, 1, none⟩ = some (.int .i64 x1) := (S.at_ 0 rfl).cell 1
  have f2 : (w.alloc (.cells #[.int .i64 x0, .int .i64 x1, .int .i64 x2, .int .i64 x3, .int .i64 x4] 50)).cell? ⟨w.heap.size, 2, none⟩ = some (.int .i64 x2) := (S.at_ 0 rfl).cell 2
  have f3 : (w.alloc (.cells #[.int .i64 x0, .int .i64 x1, .int .i64 x2, .int .i64 x3, .int .i64 x4] 50)).cell? ⟨w.heap.size, 3, none⟩ = some (.int .i64 x3) := (S.at_ 0 rfl).cell 3
  have f4 : (w.alloc (.cells #[.int .i64 x0, .int .i64 x1, .int .i64 x2, .int .i64 x3, .int .i64 x4] 50)).cell? ⟨w.heap.size, 4, none⟩ = some (.int .i64 x4) := (S.at_ 0 rfl).cell 4
  go_wp2_with fail
  generalize w.alloc (.cells #[.int .i64 x0, .int .i64 x1, .int .i64 x2, .int .i64 x3, .int .i64 x4] 50) = w1 at *
  refine (toValue_any x0 x1 x2 x3 x4 _).mono ?_
  rintro e w2 ⟨rfl, b⟩
  replace c := c.trans (b.mono c.size)
  replace S := S.keep b
  clear b f0 f1 f2 f3 f4
  go_wp2_with fail
  refine (SP.out x0 x1 x2 x3 x4 _).mono ?_
  rintro e w3 ⟨Aw0, nw0, cw0, rfl, o, b⟩
  obtain ⟨fp_w0, S'⟩ := S.has b o c.size
  replace c := c.trans (b.mono c.size)
  clear S; have S := S'; clear S' o b
  rw [← HFX0.out] at S
  have f5 : w3.cell? ⟨w.heap.size, 0, none⟩ = some (.int .i64 x0) := (S.at_ 1 rfl).cell 0
  have f6 : w3.cell? ⟨w.heap.size, 1, none⟩ = some (.int .i64 x1) := (S.at_ 1 rfl).cell 1
  have f7 : w3.cell? ⟨w.heap.size, 2, none⟩ = some (.int .i64 x2) := (S.at_ 1 rfl).cell 2
  have f8 : w3.cell? ⟨w.heap.size, 3, none⟩ = some (.int .i64 x3) := (S.at_ 1 rfl).cell 3
  have f9 : w3.cell? ⟨w.heap.size, 4, none⟩ = some (.int .i64 x4) := (S.at_ 1 rfl).cell 4
  go_wp2_with fail
  refine (toValue_any x0 x1 x2 x3 x4 _).mono ?_
  rintro e w4 ⟨rfl, b⟩
  replace c := c.trans (b.mono c.size)
  replace S := S.keep b
  clear b f5 f6 f7 f8 f9
  go_wp2_with fail
  refine (IM.out x0 x1 x2 x3 x4 _).mono ?_
  rintro e w5 ⟨Ag0, ng0, cg0, rfl, o, b⟩
  obtain ⟨fp_g0, S'⟩ := S.has b o c.size
  replace c := c.trans (b.mono c.size)
  clear S; have S := S'; clear S' o b
  rw [← HFX0.out] at S
  go_wp2_with fail
  refine (eqI_yes _ _ _ _ _ _ _ _ fx0 _ (S.own_ 0 rfl).rd (S.own_ 1 rfl).rd hfz0).mono ?_
  rintro e w6 ⟨rfl, b⟩
  replace c := c.trans (b.mono c.size)
  replace S := S.keep b
  clear b
  have nr0 : fx0.length ≤ 2097154 := by omega
  go_wp2_with fail
  refine (markI_any _ _ _ fx0 _ _ (S.own_ 0 rfl) (S.nodup_own 0 rfl) hfz0 (1) (by omega) (by omega)).mono ?_
  rintro e w7 ⟨e0, rfl, o, t, mk_g0, en_g0, es_g0⟩
  have b := S.below 0 rfl t c.size
  have S' := S.mark 0 rfl t o
  replace c := c.trans b
  clear S; have S := S'; clear S' o t b
  go_wp2_with fail
  refine (heldI_any _ _ _ e0 _ _ (S.own_ 0 rfl).rd (by omega) (1) (by omega) (by omega) mk_g0).mono ?_
  rintro e w8 ⟨rfl, b⟩
  rw [en_g0]
  have qw8 : ¬ (1 + (fx0.length : Int) < 0) := by omega
  replace c := c.trans (b.mono c.size)
  replace S := S.keep b
  clear b
  have f10 : w8.cell? ⟨w.heap.size, 0, none⟩ = some (.int .i64 x0) := (S.at_ 2 rfl).cell 0
  have f11 : w8.cell? ⟨w.heap.size, 1, none⟩ = some (.int .i64 x1) := (S.at_ 2 rfl).cell 1
  have f12 : w8.cell? ⟨w.heap.size, 2, none⟩ = some (.int .i64 x2) := (S.at_ 2 rfl).cell 2
  have f13 : w8.cell? ⟨w.heap.size, 3, none⟩ = some (.int .i64 x3) := (S.at_ 2 rfl).cell 3
  have f14 : w8.cell? ⟨w.heap.size, 4, none⟩ = some (.int .i64 x4) := (S.at_ 2 rfl).cell 4
  go_wp2_with fail
  refine (toValue_any x0 x1 x2 x3 x4 _).mono ?_
  rintro e w9 ⟨rfl, b⟩
  replace c := c.trans (b.mono c.size)
  replace S := S.keep b
  clear b f10 f11 f12 f13 f14
  go_wp2_with fail
  refine (IM.out x0 x1 x2 x3 x4 _).mono ?_
  rintro e w10 ⟨Ah0, nh0, ch0, rfl, o, b⟩
  obtain ⟨fp_h0, S'⟩ := S.has b o c.size
  replace c := c.trans (b.mono c.size)
  clear S; have S := S'; clear S' o b
  rw [← HFX0.out] at S
  go_wp2_with fail
  refine (eqI_yes _ _ _ _ _ _ _ _ fx0 _ (S.own_ 0 rfl).rd (S.own_ 2 rfl).rd hfz0).mono ?_
  rintro e w11 ⟨rfl, b⟩
  replace c := c.trans (b.mono c.size)
  replace S := S.keep b
  clear b
  go_wp2_with fail
  refine (heldI_any _ _ _ e0 _ _ (S.own_ 1 rfl).rd (by omega) (1) (by omega) (by omega) mk_g0).mono ?_
  rintro e w12 ⟨rfl, b⟩
  rw [en_g0]
  have qw12 : ¬ (1 + (fx0.length : Int) < 0) := by omega
  replace c := c.trans (b.mono c.size)
  replace S := S.keep b
  clear b
  go_wp2
  go_ret
  exact ⟨rfl, c⟩

end Go.Proofs.Ytmalpkbdaghemaa

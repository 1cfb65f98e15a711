/-
  Chapter 7: an operation read from a row, of the model (by program, wip/gen/genent3.py).
-/
import Derived.Test.YtafbjmhjjbfaeaaEntS2
import Derived.RegionTactic
import Derived.BigQuiet
namespace Go.Proofs.Ytafbjmhjjbfaeaa
set_option maxRecDepth 100000
open Go.RowKit

set_option maxHeartbeats 6400000 in
theorem sRowOp_any (A : Option Addr) (n cc B : Nat) (d : List Int) (w : World) (h : IRow w B A n d) (hB : B ≤ w.heap.size) (hm : n ≤ maxLen) :
    Calls Try.prog 68 #[.slice A n cc] w fun e w' => e = .returned (.tuple #[.agg #[.int .i64 (rowOpM d).1.kind, .int .i64 (rowOpM d).1.a, .int .i64 (rowOpM d).1.b, .int .i64 (rowOpM d).1.c, .int .i64 (rowOpM d).1.d], .bool (rowOpM d).2]) ∧ Below w.heap.size w w' := by
  unfold maxLen at hm
  by_cases hn : n = 5
  case neg =>
    have S := Sep.nil w w.heap.size
    have c := Below.refl w.heap.size w
    replace S := S.boxAt c.size (w.heap.size) rfl #[.int .i64 0, .int .i64 0, .int .i64 0, .int .i64 0, .int .i64 0] 70
    replace c := c.alloc c.size (.cells #[.int .i64 0, .int .i64 0, .int .i64 0, .int .i64 0, .int .i64 0] 70)
    have HD := Lib.hid (show rowOpM d = (op0, false) by unfold rowOpM; rw [if_neg (by rw [h.1]; exact hn)])
    have hn2 : ((n : Int) != 5) = true := by simp; omega
    have hn3 : ((n : Int) == 5) = false := by simp; omega
    clear h
    go_enter Try.func68, Try.ntmps68
    have C := Lib.hid c
    clear S c
    go_wp2
    exact bodyPost_ret (v := .tuple #[.agg #[.int .i64 0, .int .i64 0, .int .i64 0, .int .i64 0, .int .i64 0], .bool false]) (by simp [results, Try.results68, go_sem]) rfl ⟨by rw [HD.out]; rfl, C.out⟩
  case pos =>
    subst hn
    obtain ⟨b, off, rfl, hb, hc⟩ := h.2 (by omega)
    obtain ⟨x0, hx0⟩ : ∃ x, x = d.getD 0 0 := ⟨_, rfl⟩
    have k0 := hc 0 (by omega)
    rw [← hx0] at k0
    obtain ⟨x1, hx1⟩ : ∃ x, x = d.getD 1 0 := ⟨_, rfl⟩
    have k1 := hc 1 (by omega)
    rw [← hx1] at k1
    obtain ⟨x2, hx2⟩ : ∃ x, x = d.getD 2 0 := ⟨_, rfl⟩
    have k2 := hc 2 (by omega)
    rw [← hx2] at k2
    obtain ⟨x3, hx3⟩ : ∃ x, x = d.getD 3 0 := ⟨_, rfl⟩
    have k3 := hc 3 (by omega)
    rw [← hx3] at k3
    obtain ⟨x4, hx4⟩ : ∃ x, x = d.getD 4 0 := ⟨_, rfl⟩
    have k4 := hc 4 (by omega)
    rw [← hx4] at k4
    rw [Nat.add_zero] at k0
    have HO := Lib.hid (show ofOp d = ⟨x0, x1, x2, x3, x4⟩ by unfold ofOp; rw [hx0, hx1, hx2, hx3, hx4])
    have HL := Lib.hid h.1
    clear hc h hx0 hx1 hx2 hx3 hx4
    have S := Sep.nil w w.heap.size
    have c := Below.refl w.heap.size w
    replace S := S.boxAt c.size (w.heap.size) rfl #[.int .i64 0, .int .i64 0, .int .i64 0, .int .i64 0, .int .i64 0] 70
    replace c := c.alloc c.size (.cells #[.int .i64 0, .int .i64 0, .int .i64 0, .int .i64 0, .int .i64 0] 70)
    go_enter Try.func68, Try.ntmps68
    go_wp2_with fail
    generalize w.alloc (.cells #[.int .i64 0, .int .i64 0, .int .i64 0, .int .i64 0, .int .i64 0] 70) = w1 at *
    refine wp_region_L (fun v => v.cell? ⟨b, off, none⟩ = some (.int .i64 x0) ∧ v.cell? ⟨b, off + 1, none⟩ = some (.int .i64 x1) ∧ v.cell? ⟨b, off + 2, none⟩ = some (.int .i64 x2) ∧ v.cell? ⟨b, off + 3, none⟩ = some (.int .i64 x3) ∧ v.cell? ⟨b, off + 4, none⟩ = some (.int .i64 x4)) 17 (by kernel_rfl) ?_
    replace S := S.keep ((Below.refl _ _).drew)
    replace c := c.drew
    generalize w1.drew = w2 at *
    have HF : w2.cell? ⟨b, off, none⟩ = some (.int .i64 x0) ∧ w2.cell? ⟨b, off + 1, none⟩ = some (.int .i64 x1) ∧ w2.cell? ⟨b, off + 2, none⟩ = some (.int .i64 x2) ∧ w2.cell? ⟨b, off + 3, none⟩ = some (.int .i64 x3) ∧ w2.cell? ⟨b, off + 4, none⟩ = some (.int .i64 x4) := ⟨(c.cell (p := ⟨b, off, none⟩) (show b < _ by omega)).trans k0, (c.cell (p := ⟨b, off + 1, none⟩) (show b < _ by omega)).trans k1, (c.cell (p := ⟨b, off + 2, none⟩) (show b < _ by omega)).trans k2, (c.cell (p := ⟨b, off + 3, none⟩) (show b < _ by omega)).trans k3, (c.cell (p := ⟨b, off + 4, none⟩) (show b < _ by omega)).trans k4⟩
    refine wpAnyL_take (i := 0) (v := ?_) rfl rfl (by kernel_rfl) (by kernel_rfl) (by kernel_rfl) (by kernel_rfl) (by kernel_rfl) (fun _ _ _ h => h) HF (Or.inl ⟨by rfl, ?_⟩) ?_
    rotate_left 1
    · (rintro v ⟨a0, a1, a2, a3, a4⟩; go_simp; try with_reducible rfl)
    try simp only [Act.put]
    refine wpAnyL_take (i := 1) (v := ?_) rfl rfl (by kernel_rfl) (by kernel_rfl) (by kernel_rfl) (by kernel_rfl) (by kernel_rfl) (fun _ _ _ h => h) HF (Or.inl ⟨by rfl, ?_⟩) ?_
    rotate_left 1
    · (rintro v ⟨a0, a1, a2, a3, a4⟩; go_simp; try with_reducible rfl)
    try simp only [Act.put]
    refine wpAnyL_take (i := 2) (v := ?_) rfl rfl (by kernel_rfl) (by kernel_rfl) (by kernel_rfl) (by kernel_rfl) (by kernel_rfl) (fun _ _ _ h => h) HF (Or.inl ⟨by rfl, ?_⟩) ?_
    rotate_left 1
    · (rintro v ⟨a0, a1, a2, a3, a4⟩; go_simp; try with_reducible rfl)
    try simp only [Act.put]
    refine wpAnyL_take (i := 3) (v := ?_) rfl rfl (by kernel_rfl) (by kernel_rfl) (by kernel_rfl) (by kernel_rfl) (by kernel_rfl) (fun _ _ _ h => h) HF (Or.inl ⟨by rfl, ?_⟩) ?_
    rotate_left 1
    · (rintro v ⟨a0, a1, a2, a3, a4⟩; go_simp; try with_reducible rfl)
    try simp only [Act.put]
    refine wpAnyL_take (i := 4) (v := ?_) rfl rfl (by kernel_rfl) (by kernel_rfl) (by kernel_rfl) (by kernel_rfl) (by kernel_rfl) (fun _ _ _ h => h) HF (Or.inl ⟨by rfl, ?_⟩) ?_
    rotate_left 1
    · (rintro v ⟨a0, a1, a2, a3, a4⟩; go_simp; try with_reducible rfl)
    try simp only [Act.put]
    refine wpAnyL_take (i := 5) (v := ?_) rfl rfl (by kernel_rfl) (by kernel_rfl) (by kernel_rfl) (by kernel_rfl) (by kernel_rfl) (fun _ _ _ h => h) HF (Or.inl ⟨by rfl, ?_⟩) ?_
    rotate_left 1
    · (rintro v ⟨a0, a1, a2, a3, a4⟩; go_simp; try with_reducible rfl)
    try simp only [Act.put]
    refine wpAnyL_take (i := 6) (v := ?_) rfl rfl (by kernel_rfl) (by kernel_rfl) (by kernel_rfl) (by kernel_rfl) (by kernel_rfl) (fun _ _ _ h => h) HF (Or.inl ⟨by rfl, ?_⟩) ?_
    rotate_left 1
    · (rintro v ⟨a0, a1, a2, a3, a4⟩; go_simp; try with_reducible rfl)
    try simp only [Act.put]
    refine wpAnyL_take (i := 7) (v := ?_) rfl rfl (by kernel_rfl) (by kernel_rfl) (by kernel_rfl) (by kernel_rfl) (by kernel_rfl) (fun _ _ _ h => h) HF (Or.inl ⟨by rfl, ?_⟩) ?_
    rotate_left 1
    · (rintro v ⟨a0, a1, a2, a3, a4⟩; go_simp; try with_reducible rfl)
    try simp only [Act.put]
    refine wpAnyL_take (i := 8) (v := ?_) rfl rfl (by kernel_rfl) (by kernel_rfl) (by kernel_rfl) (by kernel_rfl) (by kernel_rfl) (fun _ _ _ h => h) HF (Or.inl ⟨by rfl, ?_⟩) ?_
    rotate_left 1
    · (rintro v ⟨a0, a1, a2, a3, a4⟩; go_simp; try with_reducible rfl)
    try simp only [Act.put]
    refine wpAnyL_take (i := 9) (v := ?_) rfl rfl (by kernel_rfl) (by kernel_rfl) (by kernel_rfl) (by kernel_rfl) (by kernel_rfl) (fun _ _ _ h => h) HF (Or.inl ⟨by rfl, ?_⟩) ?_
    rotate_left 1
    · (rintro v ⟨a0, a1, a2, a3, a4⟩; go_simp; try with_reducible rfl)
    try simp only [Act.put]
    refine wpAnyL_take (i := 10) (v := ?_) rfl rfl (by kernel_rfl) (by kernel_rfl) (by kernel_rfl) (by kernel_rfl) (by kernel_rfl) (fun _ _ _ h => h) HF (Or.inl ⟨by rfl, ?_⟩) ?_
    rotate_left 1
    · (rintro v ⟨a0, a1, a2, a3, a4⟩; go_simp; try with_reducible rfl)
    try simp only [Act.put]
    refine wpAnyL_take (i := 11) (v := ?_) rfl rfl (by kernel_rfl) (by kernel_rfl) (by kernel_rfl) (by kernel_rfl) (by kernel_rfl) (fun _ _ _ h => h) HF (Or.inl ⟨by rfl, ?_⟩) ?_
    rotate_left 1
    · (rintro v ⟨a0, a1, a2, a3, a4⟩; go_simp; try with_reducible rfl)
    try simp only [Act.put]
    refine wpAnyL_take (i := 12) (v := ?_) rfl rfl (by kernel_rfl) (by kernel_rfl) (by kernel_rfl) (by kernel_rfl) (by kernel_rfl) (fun _ _ _ h => h) HF (Or.inl ⟨by rfl, ?_⟩) ?_
    rotate_left 1
    · (rintro v ⟨a0, a1, a2, a3, a4⟩; go_simp; try with_reducible rfl)
    try simp only [Act.put]
    refine wpAnyL_take (i := 13) (v := ?_) rfl rfl (by kernel_rfl) (by kernel_rfl) (by kernel_rfl) (by kernel_rfl) (by kernel_rfl) (fun _ _ _ h => h) HF (Or.inl ⟨by rfl, ?_⟩) ?_
    rotate_left 1
    · (rintro v ⟨a0, a1, a2, a3, a4⟩; go_simp; try with_reducible rfl)
    try simp only [Act.put]
    refine wpAnyL_take (i := 14) (v := ?_) rfl rfl (by kernel_rfl) (by kernel_rfl) (by kernel_rfl) (by kernel_rfl) (by kernel_rfl) (fun _ _ _ h => h) HF (Or.inl ⟨by rfl, ?_⟩) ?_
    rotate_left 1
    · (rintro v ⟨a0, a1, a2, a3, a4⟩; go_simp; try with_reducible rfl)
    try simp only [Act.put]
    refine wpAnyL_take (i := 15) (v := ?_) rfl rfl (by kernel_rfl) (by kernel_rfl) (by kernel_rfl) (by kernel_rfl) (by kernel_rfl) (fun _ _ _ h => h) HF (Or.inl ⟨by rfl, ?_⟩) ?_
    rotate_left 1
    · (rintro v ⟨a0, a1, a2, a3, a4⟩; go_simp; try with_reducible rfl)
    try simp only [Act.put]
    refine wpAnyL_step (i := 16) (by kernel_rfl) rfl rfl ?_
    intro K hK
    go_simp
    replace S := S.boxAt c.size (w2.heap.size) rfl #[.int .i64 0, .int .i64 0, .int .i64 0, .int .i64 0, .int .i64 0] 70
    replace c := c.alloc c.size (.cells #[.int .i64 0, .int .i64 0, .int .i64 0, .int .i64 0, .int .i64 0] 70)
    clear HF
    have HF : (w2.alloc (.cells #[.int .i64 0, .int .i64 0, .int .i64 0, .int .i64 0, .int .i64 0] 70)).cell? ⟨b, off, none⟩ = some (.int .i64 x0) ∧ (w2.alloc (.cells #[.int .i64 0, .int .i64 0, .int .i64 0, .int .i64 0, .int .i64 0] 70)).cell? ⟨b, off + 1, none⟩ = some (.int .i64 x1) ∧ (w2.alloc (.cells #[.int .i64 0, .int .i64 0, .int .i64 0, .int .i64 0, .int .i64 0] 70)).cell? ⟨b, off + 2, none⟩ = some (.int .i64 x2) ∧ (w2.alloc (.cells #[.int .i64 0, .int .i64 0, .int .i64 0, .int .i64 0, .int .i64 0] 70)).cell? ⟨b, off + 3, none⟩ = some (.int .i64 x3) ∧ (w2.alloc (.cells #[.int .i64 0, .int .i64 0, .int .i64 0, .int .i64 0, .int .i64 0] 70)).cell? ⟨b, off + 4, none⟩ = some (.int .i64 x4) := ⟨(c.cell (p := ⟨b, off, none⟩) (show b < _ by omega)).trans k0, (c.cell (p := ⟨b, off + 1, none⟩) (show b < _ by omega)).trans k1, (c.cell (p := ⟨b, off + 2, none⟩) (show b < _ by omega)).trans k2, (c.cell (p := ⟨b, off + 3, none⟩) (show b < _ by omega)).trans k3, (c.cell (p := ⟨b, off + 4, none⟩) (show b < _ by omega)).trans k4⟩
    refine hK _ _ (fun _ => HF) ?_
    clear hK K
    try simp only [Act.put]
    generalize hw : w2.alloc (.cells #[.int .i64 0, .int .i64 0, .int .i64 0, .int .i64 0, .int .i64 0] 70) = w3 at *
    clear hw
    obtain ⟨qo, hqo⟩ : ∃ q, q = w2.heap.size := ⟨_, rfl⟩
    rw [← hqo] at S ⊢
    clear hqo
    have f0 : w3.cell? ⟨qo, 0, none⟩ = some (.int .i64 0) := (S.at_ 0 rfl).cell 0
    have f1 := (S.at_ 0 rfl).free 0
    have f2 : w3.cell? ⟨qo, 1, none⟩ = some (.int .i64 0) := (S.at_ 0 rfl).cell 1
    have f3 := (S.at_ 0 rfl).free 1
    have f4 : w3.cell? ⟨qo, 2, none⟩ = some (.int .i64 0) := (S.at_ 0 rfl).cell 2
    have f5 := (S.at_ 0 rfl).free 2
    have f6 : w3.cell? ⟨qo, 3, none⟩ = some (.int .i64 0) := (S.at_ 0 rfl).cell 3
    have f7 := (S.at_ 0 rfl).free 3
    have f8 : w3.cell? ⟨qo, 4, none⟩ = some (.int .i64 0) := (S.at_ 0 rfl).cell 4
    have f9 := (S.at_ 0 rfl).free 4
    refine wpAnyL_step (i := 17) (by kernel_rfl) rfl rfl ?_
    intro K hK
    go_simp
    refine hK _ _ (fun h => nomatch (show true = false from h)) ?_
    clear hK K
    try simp only [Act.put]
    refine wpAnyL_done (by kernel_rfl) ?_ _
    replace c := c.setCell (p := ⟨qo, 0, none⟩) (S.base_le 0 rfl) (.int .i64 x0)
    replace S := S.put 0 rfl 0 (.int .i64 x0)
    replace c := c.setCell (p := ⟨qo, 1, none⟩) (S.base_le 0 rfl) (.int .i64 x1)
    replace S := S.put 0 rfl 1 (.int .i64 x1)
    replace c := c.setCell (p := ⟨qo, 2, none⟩) (S.base_le 0 rfl) (.int .i64 x2)
    replace S := S.put 0 rfl 2 (.int .i64 x2)
    replace c := c.setCell (p := ⟨qo, 3, none⟩) (S.base_le 0 rfl) (.int .i64 x3)
    replace S := S.put 0 rfl 3 (.int .i64 x3)
    replace c := c.setCell (p := ⟨qo, 4, none⟩) (S.base_le 0 rfl) (.int .i64 x4)
    replace S := S.put 0 rfl 4 (.int .i64 x4)
    clear HF
    generalize ((((w3.setCell ⟨qo, 0, none⟩ (.int .i64 x0)).setCell ⟨qo, 1, none⟩ (.int .i64 x1)).setCell ⟨qo, 2, none⟩ (.int .i64 x2)).setCell ⟨qo, 3, none⟩ (.int .i64 x3)).setCell ⟨qo, 4, none⟩ (.int .i64 x4) = w4 at *
    clear f0 f1 f2 f3 f4 f5 f6 f7 f8 f9
    have f10 : w4.cell? ⟨qo, 0, none⟩ = some (.int .i64 x0) := (S.at_ 0 rfl).cell 0
    have f11 : w4.cell? ⟨qo, 1, none⟩ = some (.int .i64 x1) := (S.at_ 0 rfl).cell 1
    have f12 : w4.cell? ⟨qo, 2, none⟩ = some (.int .i64 x2) := (S.at_ 0 rfl).cell 2
    have f13 : w4.cell? ⟨qo, 3, none⟩ = some (.int .i64 x3) := (S.at_ 0 rfl).cell 3
    have f14 : w4.cell? ⟨qo, 4, none⟩ = some (.int .i64 x4) := (S.at_ 0 rfl).cell 4
    go_wp2_with fail
    refine (sOpOk_any x0 x1 x2 x3 x4 _).mono ?_
    rintro e w5 ⟨rfl, b⟩
    replace c := c.trans (b.mono c.size)
    replace S := S.keep b
    clear b f10 f11 f12 f13 f14
    cases hok : opB ⟨x0, x1, x2, x3, x4⟩
    case false =>
      have HD := Lib.hid (show rowOpM d = (op0, false) by unfold rowOpM; rw [if_pos HL.out, HO.out, if_neg (by rw [hok]; decide)])
      clear hok
      have f15 : w5.cell? ⟨w.heap.size, 0, none⟩ = some (.int .i64 0) := (S.at_ 1 rfl).cell 0
      have f16 := (S.at_ 1 rfl).free 0
      have f17 : w5.cell? ⟨w.heap.size, 1, none⟩ = some (.int .i64 0) := (S.at_ 1 rfl).cell 1
      have f18 := (S.at_ 1 rfl).free 1
      have f19 : w5.cell? ⟨w.heap.size, 2, none⟩ = some (.int .i64 0) := (S.at_ 1 rfl).cell 2
      have f20 := (S.at_ 1 rfl).free 2
      have f21 : w5.cell? ⟨w.heap.size, 3, none⟩ = some (.int .i64 0) := (S.at_ 1 rfl).cell 3
      have f22 := (S.at_ 1 rfl).free 3
      have f23 : w5.cell? ⟨w.heap.size, 4, none⟩ = some (.int .i64 0) := (S.at_ 1 rfl).cell 4
      have f24 := (S.at_ 1 rfl).free 4
      replace S := S.put 1 rfl 0 (.int .i64 0)
      replace c := c.setCell (p := ⟨w.heap.size, 0, none⟩) (by show w.heap.size ≤ w.heap.size; omega) (.int .i64 0)
      replace S := S.put 1 rfl 1 (.int .i64 0)
      replace c := c.setCell (p := ⟨w.heap.size, 1, none⟩) (by show w.heap.size ≤ w.heap.size; omega) (.int .i64 0)
      replace S := S.put 1 rfl 2 (.int .i64 0)
      replace c := c.setCell (p := ⟨w.heap.size, 2, none⟩) (by show w.heap.size ≤ w.heap.size; omega) (.int .i64 0)
      replace S := S.put 1 rfl 3 (.int .i64 0)
      replace c := c.setCell (p := ⟨w.heap.size, 3, none⟩) (by show w.heap.size ≤ w.heap.size; omega) (.int .i64 0)
      replace S := S.put 1 rfl 4 (.int .i64 0)
      replace c := c.setCell (p := ⟨w.heap.size, 4, none⟩) (by show w.heap.size ≤ w.heap.size; omega) (.int .i64 0)
      have r0 := Lib.hid ((S.at_ 1 rfl).cell 0)
      have r1 := Lib.hid ((S.at_ 1 rfl).cell 1)
      have r2 := Lib.hid ((S.at_ 1 rfl).cell 2)
      have r3 := Lib.hid ((S.at_ 1 rfl).cell 3)
      have r4 := Lib.hid ((S.at_ 1 rfl).cell 4)
      have C := Lib.hid c
      clear S c
      go_wp2
      exact bodyPost_ret (v := .tuple #[.agg #[.int .i64 0, .int .i64 0, .int .i64 0, .int .i64 0, .int .i64 0], .bool false]) (by simp [results, Try.results68, go_sem, r0.out, r1.out, r2.out, r3.out, r4.out]) rfl ⟨by first | (rw [HD.out]; done) | (rw [HD.out]; rfl), C.out⟩
    case true =>
      have HD := Lib.hid (show rowOpM d = (⟨x0, x1, x2, x3, x4⟩, true) by unfold rowOpM; rw [if_pos HL.out, HO.out, if_pos hok])
      clear hok
      have f15 : w5.cell? ⟨qo, 0, none⟩ = some (.int .i64 x0) := (S.at_ 0 rfl).cell 0
      have f16 : w5.cell? ⟨qo, 1, none⟩ = some (.int .i64 x1) := (S.at_ 0 rfl).cell 1
      have f17 : w5.cell? ⟨qo, 2, none⟩ = some (.int .i64 x2) := (S.at_ 0 rfl).cell 2
      have f18 : w5.cell? ⟨qo, 3, none⟩ = some (.int .i64 x3) := (S.at_ 0 rfl).cell 3
      have f19 : w5.cell? ⟨qo, 4, none⟩ = some (.int .i64 x4) := (S.at_ 0 rfl).cell 4
      have f20 : w5.cell? ⟨w.heap.size, 0, none⟩ = some (.int .i64 0) := (S.at_ 1 rfl).cell 0
      have f21 := (S.at_ 1 rfl).free 0
      have f22 : w5.cell? ⟨w.heap.size, 1, none⟩ = some (.int .i64 0) := (S.at_ 1 rfl).cell 1
      have f23 := (S.at_ 1 rfl).free 1
      have f24 : w5.cell? ⟨w.heap.size, 2, none⟩ = some (.int .i64 0) := (S.at_ 1 rfl).cell 2
      have f25 := (S.at_ 1 rfl).free 2
      have f26 : w5.cell? ⟨w.heap.size, 3, none⟩ = some (.int .i64 0) := (S.at_ 1 rfl).cell 3
      have f27 := (S.at_ 1 rfl).free 3
      have f28 : w5.cell? ⟨w.heap.size, 4, none⟩ = some (.int .i64 0) := (S.at_ 1 rfl).cell 4
      have f29 := (S.at_ 1 rfl).free 4
      replace S := S.put 1 rfl 0 (.int .i64 x0)
      replace c := c.setCell (p := ⟨w.heap.size, 0, none⟩) (by show w.heap.size ≤ w.heap.size; omega) (.int .i64 x0)
      replace S := S.put 1 rfl 1 (.int .i64 x1)
      replace c := c.setCell (p := ⟨w.heap.size, 1, none⟩) (by show w.heap.size ≤ w.heap.size; omega) (.int .i64 x1)
      replace S := S.put 1 rfl 2 (.int .i64 x2)
      replace c := c.setCell (p := ⟨w.heap.size, 2, none⟩) (by show w.heap.size ≤ w.heap.size; omega) (.int .i64 x2)
      replace S := S.put 1 rfl 3 (.int .i64 x3)
      replace c := c.setCell (p := ⟨w.heap.size, 3, none⟩) (by show w.heap.size ≤ w.heap.size; omega) (.int .i64 x3)
      replace S := S.put 1 rfl 4 (.int .i64 x4)
      replace c := c.setCell (p := ⟨w.heap.size, 4, none⟩) (by show w.heap.size ≤ w.heap.size; omega) (.int .i64 x4)
      have r0 := Lib.hid ((S.at_ 1 rfl).cell 0)
      have r1 := Lib.hid ((S.at_ 1 rfl).cell 1)
      have r2 := Lib.hid ((S.at_ 1 rfl).cell 2)
      have r3 := Lib.hid ((S.at_ 1 rfl).cell 3)
      have r4 := Lib.hid ((S.at_ 1 rfl).cell 4)
      have C := Lib.hid c
      clear S c
      go_wp2
      exact bodyPost_ret (v := .tuple #[.agg #[.int .i64 x0, .int .i64 x1, .int .i64 x2, .int .i64 x3, .int .i64 x4], .bool true]) (by simp [results, Try.results68, go_sem, r0.out, r1.out, r2.out, r3.out, r4.out]) rfl ⟨by first | (rw [HD.out]; done) | (rw [HD.out]; rfl), C.out⟩

end Go.Proofs.Ytafbjmhjjbfaeaa

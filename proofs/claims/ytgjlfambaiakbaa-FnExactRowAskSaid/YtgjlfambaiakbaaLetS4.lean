/-
  Chapter 11: messages decoded, of the model (by program, wip/gen/genlets4.py).
-/
import Derived.Test.YtgjlfambaiakbaaLetS1
import Derived.Test.YtgjlfambaiakbaaLetN
import Derived.Test.YtgjlfambaiakbaaEntL
import Derived.Test.YtgjlfambaiakbaaMove
import Derived.RegionTactic
import Derived.BigQuiet
import Derived.Laws.EntriesVeiled
namespace Go.Proofs.Ytgjlfambaiakbaa
set_option maxRecDepth 100000
open Go.RowKit

set_option linter.unusedVariables false
set_option linter.unusedSimpArgs false
theorem sIs_any (A : Option Addr) (n cc B : Nat) (d : List Int) (kk m : Int) (w : World) (h : IRow w B A n d) (hm : 0 < m) :
    Calls Try.prog 27 #[.slice A n cc, .int .i64 kk, .int .i64 m] w fun e w' => e = .returned (.bool (decide ((n : Int) = m) && decide (d.getD 0 0 = kk))) ∧ w = w' := by
  by_cases h1 : (n : Int) = m
  · obtain ⟨b, off, rfl, hb, hc⟩ := h.2 (by omega)
    have k0 := hc 0 (by omega)
    obtain ⟨x, hx⟩ : ∃ x, x = d.getD 0 0 := ⟨_, rfl⟩
    rw [← hx, Nat.add_zero] at k0
    rw [← hx]
    have hn0 : (0 : Int) < (n : Int) := by omega
    have hn1 : 0 < n := by omega
    have g1 : ((n : Int) == m) = true := by simpa using h1
    have g2 : decide ((n : Int) = m) = true := decide_eq_true h1
    have H1 := Lib.hid h1
    clear h h1 hc hx hm
    by_cases h2 : x = kk
    · have g3 : (x == kk) = true := by simpa using h2
      have g4 : decide (x = kk) = true := decide_eq_true h2
      clear h2
      go_enter Try.func27, Try.ntmps27
      go_wp2
      go_ret
      exact ⟨ret_bool (by first | rfl | simp_all), rfl⟩
    · have g3 : (x == kk) = false := by simpa using h2
      have g4 : decide (x = kk) = false := decide_eq_false h2
      clear h2
      go_enter Try.func27, Try.ntmps27
      go_wp2
      go_ret
      exact ⟨ret_bool (by first | rfl | simp_all), rfl⟩
  · have g1 : ((n : Int) == m) = false := by simpa using h1
    have g2 : decide ((n : Int) = m) = false := decide_eq_false h1
    clear h h1
    go_enter Try.func27, Try.ntmps27
    go_wp2
    go_ret
    exact ⟨ret_bool (by first | rfl | simp_all), rfl⟩

set_option maxHeartbeats 12800000 in
theorem sRowAck_at (A : Option Addr) (n c : Nat) (d0 : List Int) (w : World) (h : Rd w w.heap.size (rowCells d0) [.slice A n c]) (hs : d0.length ≤ 1048576) :
    Calls Try.prog 14 #[.slice A n c] w fun e w' => e = .returned (.tuple #[.agg #[.int .i64 (rowAckM d0).1.cl, .int .i64 (rowAckM d0).1.sq, .int .i64 (rowAckM d0).1.ix, .int .i64 (rowAckM d0).1.last], .bool (rowAckM d0).2]) ∧ Below w.heap.size w w' := by
  obtain ⟨_, _, _, e, hi, hnc, hcm⟩ := h.irow
  injection e with e1 e2 e3
  subst e1 e2 e3
  have hn : n ≤ 1048577 := by have := hi.1; omega
  have HI := Lib.hid hi
  have HL := Lib.hid hi.1
  obtain ⟨cc, hcc⟩ : ∃ q, q = c := ⟨_, rfl⟩
  rw [← hcc] at hnc hcm ⊢
  unfold maxLen at hcm
  clear h hs hcc c
  have S := Sep.nil w w.heap.size
  have c := Below.refl w.heap.size w
  replace S := S.boxAt c.size (w.heap.size) rfl #[.int .i64 0, .int .i64 0, .int .i64 0, .int .i64 0] 34
  replace c := c.alloc c.size (.cells #[.int .i64 0, .int .i64 0, .int .i64 0, .int .i64 0] 34)
  by_cases hK : n = 5 ∧ d0.getD 0 0 = 2
  case neg =>
    have HD := Lib.hid (show rowAckM d0 = (ack0, false) by unfold rowAckM; rw [if_neg (fun h9 => hK ⟨by have := HL.out; omega, h9.2.1⟩)])
    have g1 : (decide ((n : Int) = 5) && decide (d0.getD 0 0 = 2)) = false := by rw [Bool.and_eq_false_iff, decide_eq_false_iff_not, decide_eq_false_iff_not]; omega
    have KK := Lib.hid (sIs_any A n cc w.heap.size d0 2 5 _ (HI.out.below c) (by decide))
    rw [g1] at KK
    clear hi hK hn hnc hcm g1
    go_enter Try.func14, Try.ntmps14
    go_wp2_with fail
    generalize w.alloc (.cells #[.int .i64 0, .int .i64 0, .int .i64 0, .int .i64 0] 34) = w1 at *
    refine KK.out.mono ?_
    rintro e w9 ⟨rfl, rfl⟩
    clear KK
    have f0 : w1.cell? ⟨w.heap.size, 0, none⟩ = some (.int .i64 0) := (S.at_ 0 rfl).cell 0
    have f1 := (S.at_ 0 rfl).free 0
    have f2 : w1.cell? ⟨w.heap.size, 1, none⟩ = some (.int .i64 0) := (S.at_ 0 rfl).cell 1
    have f3 := (S.at_ 0 rfl).free 1
    have f4 : w1.cell? ⟨w.heap.size, 2, none⟩ = some (.int .i64 0) := (S.at_ 0 rfl).cell 2
    have f5 := (S.at_ 0 rfl).free 2
    have f6 : w1.cell? ⟨w.heap.size, 3, none⟩ = some (.int .i64 0) := (S.at_ 0 rfl).cell 3
    have f7 := (S.at_ 0 rfl).free 3
    replace S := S.put 0 rfl 0 (.int .i64 0)
    replace c := c.setCell (p := ⟨w.heap.size, 0, none⟩) (by show w.heap.size ≤ w.heap.size; omega) (.int .i64 0)
    replace S := S.put 0 rfl 1 (.int .i64 0)
    replace c := c.setCell (p := ⟨w.heap.size, 1, none⟩) (by show w.heap.size ≤ w.heap.size; omega) (.int .i64 0)
    replace S := S.put 0 rfl 2 (.int .i64 0)
    replace c := c.setCell (p := ⟨w.heap.size, 2, none⟩) (by show w.heap.size ≤ w.heap.size; omega) (.int .i64 0)
    replace S := S.put 0 rfl 3 (.int .i64 0)
    replace c := c.setCell (p := ⟨w.heap.size, 3, none⟩) (by show w.heap.size ≤ w.heap.size; omega) (.int .i64 0)
    have r0 := Lib.hid (show ((((w1.setCell ⟨w.heap.size, 0, none⟩ (.int .i64 0)).setCell ⟨w.heap.size, 1, none⟩ (.int .i64 0)).setCell ⟨w.heap.size, 2, none⟩ (.int .i64 0)).setCell ⟨w.heap.size, 3, none⟩ (.int .i64 0)).cell? ⟨w.heap.size, 0, none⟩ = some (.int .i64 0) from (S.at_ 0 rfl).cell 0)
    have r1 := Lib.hid (show ((((w1.setCell ⟨w.heap.size, 0, none⟩ (.int .i64 0)).setCell ⟨w.heap.size, 1, none⟩ (.int .i64 0)).setCell ⟨w.heap.size, 2, none⟩ (.int .i64 0)).setCell ⟨w.heap.size, 3, none⟩ (.int .i64 0)).cell? ⟨w.heap.size, 1, none⟩ = some (.int .i64 0) from (S.at_ 0 rfl).cell 1)
    have r2 := Lib.hid (show ((((w1.setCell ⟨w.heap.size, 0, none⟩ (.int .i64 0)).setCell ⟨w.heap.size, 1, none⟩ (.int .i64 0)).setCell ⟨w.heap.size, 2, none⟩ (.int .i64 0)).setCell ⟨w.heap.size, 3, none⟩ (.int .i64 0)).cell? ⟨w.heap.size, 2, none⟩ = some (.int .i64 0) from (S.at_ 0 rfl).cell 2)
    have r3 := Lib.hid (show ((((w1.setCell ⟨w.heap.size, 0, none⟩ (.int .i64 0)).setCell ⟨w.heap.size, 1, none⟩ (.int .i64 0)).setCell ⟨w.heap.size, 2, none⟩ (.int .i64 0)).setCell ⟨w.heap.size, 3, none⟩ (.int .i64 0)).cell? ⟨w.heap.size, 3, none⟩ = some (.int .i64 0) from (S.at_ 0 rfl).cell 3)
    have CC := Lib.hid c
    clear S c
    go_wp2
    exact bodyPost_ret (v := .tuple #[.agg #[.int .i64 0, .int .i64 0, .int .i64 0, .int .i64 0], .bool false]) (by simp [results, Try.results14, go_sem, r0.out, r1.out, r2.out, r3.out]) rfl ⟨by rw [HD.out] <;> rfl, CC.out⟩
  case pos =>
    have hn9 := hK.1
    subst hn9
    have hd0 := hK.2
    obtain ⟨b, off, rfl, hb, hc⟩ := hi.2 (by omega)
    obtain ⟨x0, hx0⟩ : ∃ x, x = d0.getD 1 0 := ⟨_, rfl⟩
    have k0 := hc 1 (by omega)
    rw [← hx0] at k0
    obtain ⟨x1, hx1⟩ : ∃ x, x = d0.getD 2 0 := ⟨_, rfl⟩
    have k1 := hc 2 (by omega)
    rw [← hx1] at k1
    obtain ⟨x2, hx2⟩ : ∃ x, x = d0.getD 3 0 := ⟨_, rfl⟩
    have k2 := hc 3 (by omega)
    rw [← hx2] at k2
    obtain ⟨x3, hx3⟩ : ∃ x, x = d0.getD 4 0 := ⟨_, rfl⟩
    have k3 := hc 4 (by omega)
    rw [← hx3] at k3
    have HO := Lib.hid (show ofAck d0 = ⟨x0, x1, x2, x3⟩ by unfold ofAck; rw [hx0, hx1, hx2, hx3])
    have HK := Lib.hid hd0
    have KK := Lib.hid (sIs_any (some ⟨b, off, none⟩) 5 cc w.heap.size d0 2 5 _ (HI.out.below c) (by decide))
    rw [decide_eq_true hd0, show decide (((5 : Nat) : Int) = 5) = true from rfl, Bool.and_true] at KK
    clear hc hi hd0 hK hn hnc hcm hx0 hx1 hx2 hx3
    go_enter Try.func14, Try.ntmps14
    go_wp2_with fail
    generalize w.alloc (.cells #[.int .i64 0, .int .i64 0, .int .i64 0, .int .i64 0] 34) = w1 at *
    refine KK.out.mono ?_
    rintro e w9 ⟨rfl, rfl⟩
    clear KK
    go_wp2_with fail
    refine wp_region_L (fun v => v.cell? ⟨b, off + 1, none⟩ = some (.int .i64 x0) ∧ v.cell? ⟨b, off + 2, none⟩ = some (.int .i64 x1) ∧ v.cell? ⟨b, off + 3, none⟩ = some (.int .i64 x2) ∧ v.cell? ⟨b, off + 4, none⟩ = some (.int .i64 x3)) 14 (by kernel_rfl) ?_
    replace S := S.keep ((Below.refl _ _).drew)
    replace c := c.drew
    generalize w1.drew = w2 at *
    have HF : w2.cell? ⟨b, off + 1, none⟩ = some (.int .i64 x0) ∧ w2.cell? ⟨b, off + 2, none⟩ = some (.int .i64 x1) ∧ w2.cell? ⟨b, off + 3, none⟩ = some (.int .i64 x2) ∧ w2.cell? ⟨b, off + 4, none⟩ = some (.int .i64 x3) := ⟨(c.cell (p := ⟨b, off + 1, none⟩) (show b < _ by omega)).trans k0, (c.cell (p := ⟨b, off + 2, none⟩) (show b < _ by omega)).trans k1, (c.cell (p := ⟨b, off + 3, none⟩) (show b < _ by omega)).trans k2, (c.cell (p := ⟨b, off + 4, none⟩) (show b < _ by omega)).trans k3⟩
    refine wpAnyL_take (i := 0) (v := ?_) rfl rfl (by kernel_rfl) (by kernel_rfl) (by kernel_rfl) (by kernel_rfl) (by kernel_rfl) (fun _ _ _ h => h) HF (Or.inl ⟨by rfl, ?_⟩) ?_
    rotate_left 1
    · (rintro v ⟨a0, a1, a2, a3⟩; go_simp; try with_reducible rfl)
    try simp only [Act.put]
    refine wpAnyL_take (i := 1) (v := ?_) rfl rfl (by kernel_rfl) (by kernel_rfl) (by kernel_rfl) (by kernel_rfl) (by kernel_rfl) (fun _ _ _ h => h) HF (Or.inl ⟨by rfl, ?_⟩) ?_
    rotate_left 1
    · (rintro v ⟨a0, a1, a2, a3⟩; go_simp; try with_reducible rfl)
    try simp only [Act.put]
    refine wpAnyL_take (i := 2) (v := ?_) rfl rfl (by kernel_rfl) (by kernel_rfl) (by kernel_rfl) (by kernel_rfl) (by kernel_rfl) (fun _ _ _ h => h) HF (Or.inl ⟨by rfl, ?_⟩) ?_
    rotate_left 1
    · (rintro v ⟨a0, a1, a2, a3⟩; go_simp; try with_reducible rfl)
    try simp only [Act.put]
    refine wpAnyL_take (i := 3) (v := ?_) rfl rfl (by kernel_rfl) (by kernel_rfl) (by kernel_rfl) (by kernel_rfl) (by kernel_rfl) (fun _ _ _ h => h) HF (Or.inl ⟨by rfl, ?_⟩) ?_
    rotate_left 1
    · (rintro v ⟨a0, a1, a2, a3⟩; go_simp; try with_reducible rfl)
    try simp only [Act.put]
    refine wpAnyL_take (i := 4) (v := ?_) rfl rfl (by kernel_rfl) (by kernel_rfl) (by kernel_rfl) (by kernel_rfl) (by kernel_rfl) (fun _ _ _ h => h) HF (Or.inl ⟨by rfl, ?_⟩) ?_
    rotate_left 1
    · (rintro v ⟨a0, a1, a2, a3⟩; go_simp; try with_reducible rfl)
    try simp only [Act.put]
    refine wpAnyL_take (i := 5) (v := ?_) rfl rfl (by kernel_rfl) (by kernel_rfl) (by kernel_rfl) (by kernel_rfl) (by kernel_rfl) (fun _ _ _ h => h) HF (Or.inl ⟨by rfl, ?_⟩) ?_
    rotate_left 1
    · (rintro v ⟨a0, a1, a2, a3⟩; go_simp; try with_reducible rfl)
    try simp only [Act.put]
    refine wpAnyL_take (i := 6) (v := ?_) rfl rfl (by kernel_rfl) (by kernel_rfl) (by kernel_rfl) (by kernel_rfl) (by kernel_rfl) (fun _ _ _ h => h) HF (Or.inl ⟨by rfl, ?_⟩) ?_
    rotate_left 1
    · (rintro v ⟨a0, a1, a2, a3⟩; go_simp; try with_reducible rfl)
    try simp only [Act.put]
    refine wpAnyL_take (i := 7) (v := ?_) rfl rfl (by kernel_rfl) (by kernel_rfl) (by kernel_rfl) (by kernel_rfl) (by kernel_rfl) (fun _ _ _ h => h) HF (Or.inl ⟨by rfl, ?_⟩) ?_
    rotate_left 1
    · (rintro v ⟨a0, a1, a2, a3⟩; go_simp; try with_reducible rfl)
    try simp only [Act.put]
    refine wpAnyL_take (i := 8) (v := ?_) rfl rfl (by kernel_rfl) (by kernel_rfl) (by kernel_rfl) (by kernel_rfl) (by kernel_rfl) (fun _ _ _ h => h) HF (Or.inl ⟨by rfl, ?_⟩) ?_
    rotate_left 1
    · (rintro v ⟨a0, a1, a2, a3⟩; go_simp; try with_reducible rfl)
    try simp only [Act.put]
    refine wpAnyL_take (i := 9) (v := ?_) rfl rfl (by kernel_rfl) (by kernel_rfl) (by kernel_rfl) (by kernel_rfl) (by kernel_rfl) (fun _ _ _ h => h) HF (Or.inl ⟨by rfl, ?_⟩) ?_
    rotate_left 1
    · (rintro v ⟨a0, a1, a2, a3⟩; go_simp; try with_reducible rfl)
    try simp only [Act.put]
    refine wpAnyL_take (i := 10) (v := ?_) rfl rfl (by kernel_rfl) (by kernel_rfl) (by kernel_rfl) (by kernel_rfl) (by kernel_rfl) (fun _ _ _ h => h) HF (Or.inl ⟨by rfl, ?_⟩) ?_
    rotate_left 1
    · (rintro v ⟨a0, a1, a2, a3⟩; go_simp; try with_reducible rfl)
    try simp only [Act.put]
    refine wpAnyL_take (i := 11) (v := ?_) rfl rfl (by kernel_rfl) (by kernel_rfl) (by kernel_rfl) (by kernel_rfl) (by kernel_rfl) (fun _ _ _ h => h) HF (Or.inl ⟨by rfl, ?_⟩) ?_
    rotate_left 1
    · (rintro v ⟨a0, a1, a2, a3⟩; go_simp; try with_reducible rfl)
    try simp only [Act.put]
    refine wpAnyL_take (i := 12) (v := ?_) rfl rfl (by kernel_rfl) (by kernel_rfl) (by kernel_rfl) (by kernel_rfl) (by kernel_rfl) (fun _ _ _ h => h) HF (Or.inl ⟨by rfl, ?_⟩) ?_
    rotate_left 1
    · (rintro v ⟨a0, a1, a2, a3⟩; go_simp; try with_reducible rfl)
    try simp only [Act.put]
    refine wpAnyL_step (i := 13) (by kernel_rfl) rfl rfl ?_
    intro K hK
    go_simp
    replace S := S.boxAt c.size (w2.heap.size) rfl #[.int .i64 0, .int .i64 0, .int .i64 0, .int .i64 0] 34
    replace c := c.alloc c.size (.cells #[.int .i64 0, .int .i64 0, .int .i64 0, .int .i64 0] 34)
    clear HF
    have HF : (w2.alloc (.cells #[.int .i64 0, .int .i64 0, .int .i64 0, .int .i64 0] 34)).cell? ⟨b, off + 1, none⟩ = some (.int .i64 x0) ∧ (w2.alloc (.cells #[.int .i64 0, .int .i64 0, .int .i64 0, .int .i64 0] 34)).cell? ⟨b, off + 2, none⟩ = some (.int .i64 x1) ∧ (w2.alloc (.cells #[.int .i64 0, .int .i64 0, .int .i64 0, .int .i64 0] 34)).cell? ⟨b, off + 3, none⟩ = some (.int .i64 x2) ∧ (w2.alloc (.cells #[.int .i64 0, .int .i64 0, .int .i64 0, .int .i64 0] 34)).cell? ⟨b, off + 4, none⟩ = some (.int .i64 x3) := ⟨(c.cell (p := ⟨b, off + 1, none⟩) (show b < _ by omega)).trans k0, (c.cell (p := ⟨b, off + 2, none⟩) (show b < _ by omega)).trans k1, (c.cell (p := ⟨b, off + 3, none⟩) (show b < _ by omega)).trans k2, (c.cell (p := ⟨b, off + 4, none⟩) (show b < _ by omega)).trans k3⟩
    refine hK _ _ (fun _ => HF) ?_
    clear hK K
    try simp only [Act.put]
    generalize hw : w2.alloc (.cells #[.int .i64 0, .int .i64 0, .int .i64 0, .int .i64 0] 34) = w3 at *
    clear hw
    obtain ⟨qo, hqo⟩ : ∃ q, q = w2.heap.size := ⟨_, rfl⟩
    rw [← hqo] at S ⊢
    clear hqo
    have f0 : w3.cell? ⟨qo, 0, none⟩ = some (.int .i64 0) := (S.at_ 0 rfl).cell 0
    have f1 := (S.at_ 0 rfl).free 0
    have f2 : w3.cell? ⟨qo, 1, none⟩ = some (.int .i64 0) := (S.at_ 0 rfl).cell 1
    have f3 := (S.at_ 0 rfl).free 1
    have f4 : w3.cell? ⟨qo, 2, none⟩ = some (.int .i64 0) := (S.at_ 0 rfl).cell 2
    have f5 := (S.at_ 0 rfl).free 2
    have f6 : w3.cell? ⟨qo, 3, none⟩ = some (.int .i64 0) := (S.at_ 0 rfl).cell 3
    have f7 := (S.at_ 0 rfl).free 3
    refine wpAnyL_step (i := 14) (by kernel_rfl) rfl rfl ?_
    intro K hK
    go_simp
    refine hK _ _ (fun h => nomatch (show true = false from h)) ?_
    clear hK K
    try simp only [Act.put]
    refine wpAnyL_done (by kernel_rfl) ?_ _
    replace c := c.setCell (p := ⟨qo, 0, none⟩) (S.base_le 0 rfl) (.int .i64 x0)
    replace S := S.put 0 rfl 0 (.int .i64 x0)
    replace c := c.setCell (p := ⟨qo, 1, none⟩) (S.base_le 0 rfl) (.int .i64 x1)
    replace S := S.put 0 rfl 1 (.int .i64 x1)
    replace c := c.setCell (p := ⟨qo, 2, none⟩) (S.base_le 0 rfl) (.int .i64 x2)
    replace S := S.put 0 rfl 2 (.int .i64 x2)
    replace c := c.setCell (p := ⟨qo, 3, none⟩) (S.base_le 0 rfl) (.int .i64 x3)
    replace S := S.put 0 rfl 3 (.int .i64 x3)
    clear HF
    generalize (((w3.setCell ⟨qo, 0, none⟩ (.int .i64 x0)).setCell ⟨qo, 1, none⟩ (.int .i64 x1)).setCell ⟨qo, 2, none⟩ (.int .i64 x2)).setCell ⟨qo, 3, none⟩ (.int .i64 x3) = w4 at *
    clear f0 f1 f2 f3 f4 f5 f6 f7
    have f8 : w4.cell? ⟨qo, 0, none⟩ = some (.int .i64 x0) := (S.at_ 0 rfl).cell 0
    have f9 : w4.cell? ⟨qo, 1, none⟩ = some (.int .i64 x1) := (S.at_ 0 rfl).cell 1
    have f10 : w4.cell? ⟨qo, 2, none⟩ = some (.int .i64 x2) := (S.at_ 0 rfl).cell 2
    have f11 : w4.cell? ⟨qo, 3, none⟩ = some (.int .i64 x3) := (S.at_ 0 rfl).cell 3
    go_wp2_with fail
    refine (sAckOk_any x0 x1 x2 x3 _).mono ?_
    rintro e w5 ⟨rfl, b2⟩
    replace c := c.trans (b2.mono c.size)
    replace S := S.keep b2
    clear b2 f8 f9 f10 f11
    cases hok : ackOkB ⟨x0, x1, x2, x3⟩
    case false =>
      have HD := Lib.hid (show rowAckM d0 = (ack0, false) by unfold rowAckM; rw [if_neg (fun h9 => by have h8 := h9.2.2; rw [HO.out, hok] at h8; cases h8)])
      clear hok
      have f12 : w5.cell? ⟨w.heap.size, 0, none⟩ = some (.int .i64 0) := (S.at_ 1 rfl).cell 0
      have f13 := (S.at_ 1 rfl).free 0
      have f14 : w5.cell? ⟨w.heap.size, 1, none⟩ = some (.int .i64 0) := (S.at_ 1 rfl).cell 1
      have f15 := (S.at_ 1 rfl).free 1
      have f16 : w5.cell? ⟨w.heap.size, 2, none⟩ = some (.int .i64 0) := (S.at_ 1 rfl).cell 2
      have f17 := (S.at_ 1 rfl).free 2
      have f18 : w5.cell? ⟨w.heap.size, 3, none⟩ = some (.int .i64 0) := (S.at_ 1 rfl).cell 3
      have f19 := (S.at_ 1 rfl).free 3
      replace S := S.put 1 rfl 0 (.int .i64 0)
      replace c := c.setCell (p := ⟨w.heap.size, 0, none⟩) (by show w.heap.size ≤ w.heap.size; omega) (.int .i64 0)
      replace S := S.put 1 rfl 1 (.int .i64 0)
      replace c := c.setCell (p := ⟨w.heap.size, 1, none⟩) (by show w.heap.size ≤ w.heap.size; omega) (.int .i64 0)
      replace S := S.put 1 rfl 2 (.int .i64 0)
      replace c := c.setCell (p := ⟨w.heap.size, 2, none⟩) (by show w.heap.size ≤ w.heap.size; omega) (.int .i64 0)
      replace S := S.put 1 rfl 3 (.int .i64 0)
      replace c := c.setCell (p := ⟨w.heap.size, 3, none⟩) (by show w.heap.size ≤ w.heap.size; omega) (.int .i64 0)
      have r0 := Lib.hid (show ((((w5.setCell ⟨w.heap.size, 0, none⟩ (.int .i64 0)).setCell ⟨w.heap.size, 1, none⟩ (.int .i64 0)).setCell ⟨w.heap.size, 2, none⟩ (.int .i64 0)).setCell ⟨w.heap.size, 3, none⟩ (.int .i64 0)).cell? ⟨w.heap.size, 0, none⟩ = some (.int .i64 0) from (S.at_ 1 rfl).cell 0)
      have r1 := Lib.hid (show ((((w5.setCell ⟨w.heap.size, 0, none⟩ (.int .i64 0)).setCell ⟨w.heap.size, 1, none⟩ (.int .i64 0)).setCell ⟨w.heap.size, 2, none⟩ (.int .i64 0)).setCell ⟨w.heap.size, 3, none⟩ (.int .i64 0)).cell? ⟨w.heap.size, 1, none⟩ = some (.int .i64 0) from (S.at_ 1 rfl).cell 1)
      have r2 := Lib.hid (show ((((w5.setCell ⟨w.heap.size, 0, none⟩ (.int .i64 0)).setCell ⟨w.heap.size, 1, none⟩ (.int .i64 0)).setCell ⟨w.heap.size, 2, none⟩ (.int .i64 0)).setCell ⟨w.heap.size, 3, none⟩ (.int .i64 0)).cell? ⟨w.heap.size, 2, none⟩ = some (.int .i64 0) from (S.at_ 1 rfl).cell 2)
      have r3 := Lib.hid (show ((((w5.setCell ⟨w.heap.size, 0, none⟩ (.int .i64 0)).setCell ⟨w.heap.size, 1, none⟩ (.int .i64 0)).setCell ⟨w.heap.size, 2, none⟩ (.int .i64 0)).setCell ⟨w.heap.size, 3, none⟩ (.int .i64 0)).cell? ⟨w.heap.size, 3, none⟩ = some (.int .i64 0) from (S.at_ 1 rfl).cell 3)
      have CC := Lib.hid c
      clear S c
      go_wp2
      exact bodyPost_ret (v := .tuple #[.agg #[.int .i64 0, .int .i64 0, .int .i64 0, .int .i64 0], .bool false]) (by simp [results, Try.results14, go_sem, r0.out, r1.out, r2.out, r3.out]) rfl ⟨by rw [HD.out] <;> rfl, CC.out⟩
    case true =>
      have HD := Lib.hid (show rowAckM d0 = (⟨x0, x1, x2, x3⟩, true) by unfold rowAckM; rw [if_pos ⟨HL.out, HK.out, by rw [HO.out]; exact hok⟩, HO.out])
      clear hok
      have f12 : w5.cell? ⟨qo, 0, none⟩ = some (.int .i64 x0) := (S.at_ 0 rfl).cell 0
      have f13 : w5.cell? ⟨qo, 1, none⟩ = some (.int .i64 x1) := (S.at_ 0 rfl).cell 1
      have f14 : w5.cell? ⟨qo, 2, none⟩ = some (.int .i64 x2) := (S.at_ 0 rfl).cell 2
      have f15 : w5.cell? ⟨qo, 3, none⟩ = some (.int .i64 x3) := (S.at_ 0 rfl).cell 3
      have f16 : w5.cell? ⟨w.heap.size, 0, none⟩ = some (.int .i64 0) := (S.at_ 1 rfl).cell 0
      have f17 := (S.at_ 1 rfl).free 0
      have f18 : w5.cell? ⟨w.heap.size, 1, none⟩ = some (.int .i64 0) := (S.at_ 1 rfl).cell 1
      have f19 := (S.at_ 1 rfl).free 1
      have f20 : w5.cell? ⟨w.heap.size, 2, none⟩ = some (.int .i64 0) := (S.at_ 1 rfl).cell 2
      have f21 := (S.at_ 1 rfl).free 2
      have f22 : w5.cell? ⟨w.heap.size, 3, none⟩ = some (.int .i64 0) := (S.at_ 1 rfl).cell 3
      have f23 := (S.at_ 1 rfl).free 3
      replace S := S.put 1 rfl 0 (.int .i64 x0)
      replace c := c.setCell (p := ⟨w.heap.size, 0, none⟩) (by show w.heap.size ≤ w.heap.size; omega) (.int .i64 x0)
      replace S := S.put 1 rfl 1 (.int .i64 x1)
      replace c := c.setCell (p := ⟨w.heap.size, 1, none⟩) (by show w.heap.size ≤ w.heap.size; omega) (.int .i64 x1)
      replace S := S.put 1 rfl 2 (.int .i64 x2)
      replace c := c.setCell (p := ⟨w.heap.size, 2, none⟩) (by show w.heap.size ≤ w.heap.size; omega) (.int .i64 x2)
      replace S := S.put 1 rfl 3 (.int .i64 x3)
      replace c := c.setCell (p := ⟨w.heap.size, 3, none⟩) (by show w.heap.size ≤ w.heap.size; omega) (.int .i64 x3)
      have r0 := Lib.hid (show ((((w5.setCell ⟨w.heap.size, 0, none⟩ (.int .i64 x0)).setCell ⟨w.heap.size, 1, none⟩ (.int .i64 x1)).setCell ⟨w.heap.size, 2, none⟩ (.int .i64 x2)).setCell ⟨w.heap.size, 3, none⟩ (.int .i64 x3)).cell? ⟨w.heap.size, 0, none⟩ = some (.int .i64 x0) from (S.at_ 1 rfl).cell 0)
      have r1 := Lib.hid (show ((((w5.setCell ⟨w.heap.size, 0, none⟩ (.int .i64 x0)).setCell ⟨w.heap.size, 1, none⟩ (.int .i64 x1)).setCell ⟨w.heap.size, 2, none⟩ (.int .i64 x2)).setCell ⟨w.heap.size, 3, none⟩ (.int .i64 x3)).cell? ⟨w.heap.size, 1, none⟩ = some (.int .i64 x1) from (S.at_ 1 rfl).cell 1)
      have r2 := Lib.hid (show ((((w5.setCell ⟨w.heap.size, 0, none⟩ (.int .i64 x0)).setCell ⟨w.heap.size, 1, none⟩ (.int .i64 x1)).setCell ⟨w.heap.size, 2, none⟩ (.int .i64 x2)).setCell ⟨w.heap.size, 3, none⟩ (.int .i64 x3)).cell? ⟨w.heap.size, 2, none⟩ = some (.int .i64 x2) from (S.at_ 1 rfl).cell 2)
      have r3 := Lib.hid (show ((((w5.setCell ⟨w.heap.size, 0, none⟩ (.int .i64 x0)).setCell ⟨w.heap.size, 1, none⟩ (.int .i64 x1)).setCell ⟨w.heap.size, 2, none⟩ (.int .i64 x2)).setCell ⟨w.heap.size, 3, none⟩ (.int .i64 x3)).cell? ⟨w.heap.size, 3, none⟩ = some (.int .i64 x3) from (S.at_ 1 rfl).cell 3)
      have CC := Lib.hid c
      clear S c
      go_wp2
      exact bodyPost_ret (v := .tuple #[.agg #[.int .i64 x0, .int .i64 x1, .int .i64 x2, .int .i64 x3], .bool true]) (by simp [results, Try.results14, go_sem, r0.out, r1.out, r2.out, r3.out]) rfl ⟨by rw [HD.out] <;> rfl, CC.out⟩

set_option maxHeartbeats 12800000 in
theorem sRowRead_at (A : Option Addr) (n c : Nat) (d0 : List Int) (w : World) (h : Rd w w.heap.size (rowCells d0) [.slice A n c]) (hs : d0.length ≤ 1048576) :
    Calls Try.prog 21 #[.slice A n c] w fun e w' => e = .returned (.tuple #[.agg #[.int .i64 (rowReadM d0).1.cl, .int .i64 (rowReadM d0).1.sq, .int .i64 (rowReadM d0).1.key, .int .i64 (rowReadM d0).1.least], .bool (rowReadM d0).2]) ∧ Below w.heap.size w w' := by
  obtain ⟨_, _, _, e, hi, hnc, hcm⟩ := h.irow
  injection e with e1 e2 e3
  subst e1 e2 e3
  have hn : n ≤ 1048577 := by have := hi.1; omega
  have HI := Lib.hid hi
  have HL := Lib.hid hi.1
  obtain ⟨cc, hcc⟩ : ∃ q, q = c := ⟨_, rfl⟩
  rw [← hcc] at hnc hcm ⊢
  unfold maxLen at hcm
  clear h hs hcc c
  have S := Sep.nil w w.heap.size
  have c := Below.refl w.heap.size w
  replace S := S.boxAt c.size (w.heap.size) rfl #[.int .i64 0, .int .i64 0, .int .i64 0, .int .i64 0] 41
  replace c := c.alloc c.size (.cells #[.int .i64 0, .int .i64 0, .int .i64 0, .int .i64 0] 41)
  by_cases hK : n = 5 ∧ d0.getD 0 0 = 6
  case neg =>
    have HD := Lib.hid (show rowReadM d0 = (read0, false) by unfold rowReadM; rw [if_neg (fun h9 => hK ⟨by have := HL.out; omega, h9.2.1⟩)])
    have g1 : (decide ((n : Int) = 5) && decide (d0.getD 0 0 = 6)) = false := by rw [Bool.and_eq_false_iff, decide_eq_false_iff_not, decide_eq_false_iff_not]; omega
    have KK := Lib.hid (sIs_any A n cc w.heap.size d0 6 5 _ (HI.out.below c) (by decide))
    rw [g1] at KK
    clear hi hK hn hnc hcm g1
    go_enter Try.func21, Try.ntmps21
    go_wp2_with fail
    generalize w.alloc (.cells #[.int .i64 0, .int .i64 0, .int .i64 0, .int .i64 0] 41) = w1 at *
    refine KK.out.mono ?_
    rintro e w9 ⟨rfl, rfl⟩
    clear KK
    have f0 : w1.cell? ⟨w.heap.size, 0, none⟩ = some (.int .i64 0) := (S.at_ 0 rfl).cell 0
    have f1 := (S.at_ 0 rfl).free 0
    have f2 : w1.cell? ⟨w.heap.size, 1, none⟩ = some (.int .i64 0) := (S.at_ 0 rfl).cell 1
    have f3 := (S.at_ 0 rfl).free 1
    have f4 : w1.cell? ⟨w.heap.size, 2, none⟩ = some (.int .i64 0) := (S.at_ 0 rfl).cell 2
    have f5 := (S.at_ 0 rfl).free 2
    have f6 : w1.cell? ⟨w.heap.size, 3, none⟩ = some (.int .i64 0) := (S.at_ 0 rfl).cell 3
    have f7 := (S.at_ 0 rfl).free 3
    replace S := S.put 0 rfl 0 (.int .i64 0)
    replace c := c.setCell (p := ⟨w.heap.size, 0, none⟩) (by show w.heap.size ≤ w.heap.size; omega) (.int .i64 0)
    replace S := S.put 0 rfl 1 (.int .i64 0)
    replace c := c.setCell (p := ⟨w.heap.size, 1, none⟩) (by show w.heap.size ≤ w.heap.size; omega) (.int .i64 0)
    replace S := S.put 0 rfl 2 (.int .i64 0)
    replace c := c.setCell (p := ⟨w.heap.size, 2, none⟩) (by show w.heap.size ≤ w.heap.size; omega) (.int .i64 0)
    replace S := S.put 0 rfl 3 (.int .i64 0)
    replace c := c.setCell (p := ⟨w.heap.size, 3, none⟩) (by show w.heap.size ≤ w.heap.size; omega) (.int .i64 0)
    have r0 := Lib.hid (show ((((w1.setCell ⟨w.heap.size, 0, none⟩ (.int .i64 0)).setCell ⟨w.heap.size, 1, none⟩ (.int .i64 0)).setCell ⟨w.heap.size, 2, none⟩ (.int .i64 0)).setCell ⟨w.heap.size, 3, none⟩ (.int .i64 0)).cell? ⟨w.heap.size, 0, none⟩ = some (.int .i64 0) from (S.at_ 0 rfl).cell 0)
    have r1 := Lib.hid (show ((((w1.setCell ⟨w.heap.size, 0, none⟩ (.int .i64 0)).setCell ⟨w.heap.size, 1, none⟩ (.int .i64 0)).setCell ⟨w.heap.size, 2, none⟩ (.int .i64 0)).setCell ⟨w.heap.size, 3, none⟩ (.int .i64 0)).cell? ⟨w.heap.size, 1, none⟩ = some (.int .i64 0) from (S.at_ 0 rfl).cell 1)
    have r2 := Lib.hid (show ((((w1.setCell ⟨w.heap.size, 0, none⟩ (.int .i64 0)).setCell ⟨w.heap.size, 1, none⟩ (.int .i64 0)).setCell ⟨w.heap.size, 2, none⟩ (.int .i64 0)).setCell ⟨w.heap.size, 3, none⟩ (.int .i64 0)).cell? ⟨w.heap.size, 2, none⟩ = some (.int .i64 0) from (S.at_ 0 rfl).cell 2)
    have r3 := Lib.hid (show ((((w1.setCell ⟨w.heap.size, 0, none⟩ (.int .i64 0)).setCell ⟨w.heap.size, 1, none⟩ (.int .i64 0)).setCell ⟨w.heap.size, 2, none⟩ (.int .i64 0)).setCell ⟨w.heap.size, 3, none⟩ (.int .i64 0)).cell? ⟨w.heap.size, 3, none⟩ = some (.int .i64 0) from (S.at_ 0 rfl).cell 3)
    have CC := Lib.hid c
    clear S c
    go_wp2
    exact bodyPost_ret (v := .tuple #[.agg #[.int .i64 0, .int .i64 0, .int .i64 0, .int .i64 0], .bool false]) (by simp [results, Try.results21, go_sem, r0.out, r1.out, r2.out, r3.out]) rfl ⟨by rw [HD.out] <;> rfl, CC.out⟩
  case pos =>
    have hn9 := hK.1
    subst hn9
    have hd0 := hK.2
    obtain ⟨b, off, rfl, hb, hc⟩ := hi.2 (by omega)
    obtain ⟨x0, hx0⟩ : ∃ x, x = d0.getD 1 0 := ⟨_, rfl⟩
    have k0 := hc 1 (by omega)
    rw [← hx0] at k0
    obtain ⟨x1, hx1⟩ : ∃ x, x = d0.getD 2 0 := ⟨_, rfl⟩
    have k1 := hc 2 (by omega)
    rw [← hx1] at k1
    obtain ⟨x2, hx2⟩ : ∃ x, x = d0.getD 3 0 := ⟨_, rfl⟩
    have k2 := hc 3 (by omega)
    rw [← hx2] at k2
    obtain ⟨x3, hx3⟩ : ∃ x, x = d0.getD 4 0 := ⟨_, rfl⟩
    have k3 := hc 4 (by omega)
    rw [← hx3] at k3
    have HO := Lib.hid (show ofRead d0 = ⟨x0, x1, x2, x3⟩ by unfold ofRead; rw [hx0, hx1, hx2, hx3])
    have HK := Lib.hid hd0
    have KK := Lib.hid (sIs_any (some ⟨b, off, none⟩) 5 cc w.heap.size d0 6 5 _ (HI.out.below c) (by decide))
    rw [decide_eq_true hd0, show decide (((5 : Nat) : Int) = 5) = true from rfl, Bool.and_true] at KK
    clear hc hi hd0 hK hn hnc hcm hx0 hx1 hx2 hx3
    go_enter Try.func21, Try.ntmps21
    go_wp2_with fail
    generalize w.alloc (.cells #[.int .i64 0, .int .i64 0, .int .i64 0, .int .i64 0] 41) = w1 at *
    refine KK.out.mono ?_
    rintro e w9 ⟨rfl, rfl⟩
    clear KK
    go_wp2_with fail
    refine wp_region_L (fun v => v.cell? ⟨b, off + 1, none⟩ = some (.int .i64 x0) ∧ v.cell? ⟨b, off + 2, none⟩ = some (.int .i64 x1) ∧ v.cell? ⟨b, off + 3, none⟩ = some (.int .i64 x2) ∧ v.cell? ⟨b, off + 4, none⟩ = some (.int .i64 x3)) 14 (by kernel_rfl) ?_
    replace S := S.keep ((Below.refl _ _).drew)
    replace c := c.drew
    generalize w1.drew = w2 at *
    have HF : w2.cell? ⟨b, off + 1, none⟩ = some (.int .i64 x0) ∧ w2.cell? ⟨b, off + 2, none⟩ = some (.int .i64 x1) ∧ w2.cell? ⟨b, off + 3, none⟩ = some (.int .i64 x2) ∧ w2.cell? ⟨b, off + 4, none⟩ = some (.int .i64 x3) := ⟨(c.cell (p := ⟨b, off + 1, none⟩) (show b < _ by omega)).trans k0, (c.cell (p := ⟨b, off + 2, none⟩) (show b < _ by omega)).trans k1, (c.cell (p := ⟨b, off + 3, none⟩) (show b < _ by omega)).trans k2, (c.cell (p := ⟨b, off + 4, none⟩) (show b < _ by omega)).trans k3⟩
    refine wpAnyL_take (i := 0) (v := ?_) rfl rfl (by kernel_rfl) (by kernel_rfl) (by kernel_rfl) (by kernel_rfl) (by kernel_rfl) (fun _ _ _ h => h) HF (Or.inl ⟨by rfl, ?_⟩) ?_
    rotate_left 1
    · (rintro v ⟨a0, a1, a2, a3⟩; go_simp; try with_reducible rfl)
    try simp only [Act.put]
    refine wpAnyL_take (i := 1) (v := ?_) rfl rfl (by kernel_rfl) (by kernel_rfl) (by kernel_rfl) (by kernel_rfl) (by kernel_rfl) (fun _ _ _ h => h) HF (Or.inl ⟨by rfl, ?_⟩) ?_
    rotate_left 1
    · (rintro v ⟨a0, a1, a2, a3⟩; go_simp; try with_reducible rfl)
    try simp only [Act.put]
    refine wpAnyL_take (i := 2) (v := ?_) rfl rfl (by kernel_rfl) (by kernel_rfl) (by kernel_rfl) (by kernel_rfl) (by kernel_rfl) (fun _ _ _ h => h) HF (Or.inl ⟨by rfl, ?_⟩) ?_
    rotate_left 1
    · (rintro v ⟨a0, a1, a2, a3⟩; go_simp; try with_reducible rfl)
    try simp only [Act.put]
    refine wpAnyL_take (i := 3) (v := ?_) rfl rfl (by kernel_rfl) (by kernel_rfl) (by kernel_rfl) (by kernel_rfl) (by kernel_rfl) (fun _ _ _ h => h) HF (Or.inl ⟨by rfl, ?_⟩) ?_
    rotate_left 1
    · (rintro v ⟨a0, a1, a2, a3⟩; go_simp; try with_reducible rfl)
    try simp only [Act.put]
    refine wpAnyL_take (i := 4) (v := ?_) rfl rfl (by kernel_rfl) (by kernel_rfl) (by kernel_rfl) (by kernel_rfl) (by kernel_rfl) (fun _ _ _ h => h) HF (Or.inl ⟨by rfl, ?_⟩) ?_
    rotate_left 1
    · (rintro v ⟨a0, a1, a2, a3⟩; go_simp; try with_reducible rfl)
    try simp only [Act.put]
    refine wpAnyL_take (i := 5) (v := ?_) rfl rfl (by kernel_rfl) (by kernel_rfl) (by kernel_rfl) (by kernel_rfl) (by kernel_rfl) (fun _ _ _ h => h) HF (Or.inl ⟨by rfl, ?_⟩) ?_
    rotate_left 1
    · (rintro v ⟨a0, a1, a2, a3⟩; go_simp; try with_reducible rfl)
    try simp only [Act.put]
    refine wpAnyL_take (i := 6) (v := ?_) rfl rfl (by kernel_rfl) (by kernel_rfl) (by kernel_rfl) (by kernel_rfl) (by kernel_rfl) (fun _ _ _ h => h) HF (Or.inl ⟨by rfl, ?_⟩) ?_
    rotate_left 1
    · (rintro v ⟨a0, a1, a2, a3⟩; go_simp; try with_reducible rfl)
    try simp only [Act.put]
    refine wpAnyL_take (i := 7) (v := ?_) rfl rfl (by kernel_rfl) (by kernel_rfl) (by kernel_rfl) (by kernel_rfl) (by kernel_rfl) (fun _ _ _ h => h) HF (Or.inl ⟨by rfl, ?_⟩) ?_
    rotate_left 1
    · (rintro v ⟨a0, a1, a2, a3⟩; go_simp; try with_reducible rfl)
    try simp only [Act.put]
    refine wpAnyL_take (i := 8) (v := ?_) rfl rfl (by kernel_rfl) (by kernel_rfl) (by kernel_rfl) (by kernel_rfl) (by kernel_rfl) (fun _ _ _ h => h) HF (Or.inl ⟨by rfl, ?_⟩) ?_
    rotate_left 1
    · (rintro v ⟨a0, a1, a2, a3⟩; go_simp; try with_reducible rfl)
    try simp only [Act.put]
    refine wpAnyL_take (i := 9) (v := ?_) rfl rfl (by kernel_rfl) (by kernel_rfl) (by kernel_rfl) (by kernel_rfl) (by kernel_rfl) (fun _ _ _ h => h) HF (Or.inl ⟨by rfl, ?_⟩) ?_
    rotate_left 1
    · (rintro v ⟨a0, a1, a2, a3⟩; go_simp; try with_reducible rfl)
    try simp only [Act.put]
    refine wpAnyL_take (i := 10) (v := ?_) rfl rfl (by kernel_rfl) (by kernel_rfl) (by kernel_rfl) (by kernel_rfl) (by kernel_rfl) (fun _ _ _ h => h) HF (Or.inl ⟨by rfl, ?_⟩) ?_
    rotate_left 1
    · (rintro v ⟨a0, a1, a2, a3⟩; go_simp; try with_reducible rfl)
    try simp only [Act.put]
    refine wpAnyL_take (i := 11) (v := ?_) rfl rfl (by kernel_rfl) (by kernel_rfl) (by kernel_rfl) (by kernel_rfl) (by kernel_rfl) (fun _ _ _ h => h) HF (Or.inl ⟨by rfl, ?_⟩) ?_
    rotate_left 1
    · (rintro v ⟨a0, a1, a2, a3⟩; go_simp; try with_reducible rfl)
    try simp only [Act.put]
    refine wpAnyL_take (i := 12) (v := ?_) rfl rfl (by kernel_rfl) (by kernel_rfl) (by kernel_rfl) (by kernel_rfl) (by kernel_rfl) (fun _ _ _ h => h) HF (Or.inl ⟨by rfl, ?_⟩) ?_
    rotate_left 1
    · (rintro v ⟨a0, a1, a2, a3⟩; go_simp; try with_reducible rfl)
    try simp only [Act.put]
    refine wpAnyL_step (i := 13) (by kernel_rfl) rfl rfl ?_
    intro K hK
    go_simp
    replace S := S.boxAt c.size (w2.heap.size) rfl #[.int .i64 0, .int .i64 0, .int .i64 0, .int .i64 0] 41
    replace c := c.alloc c.size (.cells #[.int .i64 0, .int .i64 0, .int .i64 0, .int .i64 0] 41)
    clear HF
    have HF : (w2.alloc (.cells #[.int .i64 0, .int .i64 0, .int .i64 0, .int .i64 0] 41)).cell? ⟨b, off + 1, none⟩ = some (.int .i64 x0) ∧ (w2.alloc (.cells #[.int .i64 0, .int .i64 0, .int .i64 0, .int .i64 0] 41)).cell? ⟨b, off + 2, none⟩ = some (.int .i64 x1) ∧ (w2.alloc (.cells #[.int .i64 0, .int .i64 0, .int .i64 0, .int .i64 0] 41)).cell? ⟨b, off + 3, none⟩ = some (.int .i64 x2) ∧ (w2.alloc (.cells #[.int .i64 0, .int .i64 0, .int .i64 0, .int .i64 0] 41)).cell? ⟨b, off + 4, none⟩ = some (.int .i64 x3) := ⟨(c.cell (p := ⟨b, off + 1, none⟩) (show b < _ by omega)).trans k0, (c.cell (p := ⟨b, off + 2, none⟩) (show b < _ by omega)).trans k1, (c.cell (p := ⟨b, off + 3, none⟩) (show b < _ by omega)).trans k2, (c.cell (p := ⟨b, off + 4, none⟩) (show b < _ by omega)).trans k3⟩
    refine hK _ _ (fun _ => HF) ?_
    clear hK K
    try simp only [Act.put]
    generalize hw : w2.alloc (.cells #[.int .i64 0, .int .i64 0, .int .i64 0, .int .i64 0] 41) = w3 at *
    clear hw
    obtain ⟨qo, hqo⟩ : ∃ q, q = w2.heap.size := ⟨_, rfl⟩
    rw [← hqo] at S ⊢
    clear hqo
    have f0 : w3.cell? ⟨qo, 0, none⟩ = some (.int .i64 0) := (S.at_ 0 rfl).cell 0
    have f1 := (S.at_ 0 rfl).free 0
    have f2 : w3.cell? ⟨qo, 1, none⟩ = some (.int .i64 0) := (S.at_ 0 rfl).cell 1
    have f3 := (S.at_ 0 rfl).free 1
    have f4 : w3.cell? ⟨qo, 2, none⟩ = some (.int .i64 0) := (S.at_ 0 rfl).cell 2
    have f5 := (S.at_ 0 rfl).free 2
    have f6 : w3.cell? ⟨qo, 3, none⟩ = some (.int .i64 0) := (S.at_ 0 rfl).cell 3
    have f7 := (S.at_ 0 rfl).free 3
    refine wpAnyL_step (i := 14) (by kernel_rfl) rfl rfl ?_
    intro K hK
    go_simp
    refine hK _ _ (fun h => nomatch (show true = false from h)) ?_
    clear hK K
    try simp only [Act.put]
    refine wpAnyL_done (by kernel_rfl) ?_ _
    replace c := c.setCell (p := ⟨qo, 0, none⟩) (S.base_le 0 rfl) (.int .i64 x0)
    replace S := S.put 0 rfl 0 (.int .i64 x0)
    replace c := c.setCell (p := ⟨qo, 1, none⟩) (S.base_le 0 rfl) (.int .i64 x1)
    replace S := S.put 0 rfl 1 (.int .i64 x1)
    replace c := c.setCell (p := ⟨qo, 2, none⟩) (S.base_le 0 rfl) (.int .i64 x2)
    replace S := S.put 0 rfl 2 (.int .i64 x2)
    replace c := c.setCell (p := ⟨qo, 3, none⟩) (S.base_le 0 rfl) (.int .i64 x3)
    replace S := S.put 0 rfl 3 (.int .i64 x3)
    clear HF
    generalize (((w3.setCell ⟨qo, 0, none⟩ (.int .i64 x0)).setCell ⟨qo, 1, none⟩ (.int .i64 x1)).setCell ⟨qo, 2, none⟩ (.int .i64 x2)).setCell ⟨qo, 3, none⟩ (.int .i64 x3) = w4 at *
    clear f0 f1 f2 f3 f4 f5 f6 f7
    have f8 : w4.cell? ⟨qo, 0, none⟩ = some (.int .i64 x0) := (S.at_ 0 rfl).cell 0
    have f9 : w4.cell? ⟨qo, 1, none⟩ = some (.int .i64 x1) := (S.at_ 0 rfl).cell 1
    have f10 : w4.cell? ⟨qo, 2, none⟩ = some (.int .i64 x2) := (S.at_ 0 rfl).cell 2
    have f11 : w4.cell? ⟨qo, 3, none⟩ = some (.int .i64 x3) := (S.at_ 0 rfl).cell 3
    go_wp2_with fail
    refine (sReadOk_any x0 x1 x2 x3 _).mono ?_
    rintro e w5 ⟨rfl, b2⟩
    replace c := c.trans (b2.mono c.size)
    replace S := S.keep b2
    clear b2 f8 f9 f10 f11
    cases hok : readOkB ⟨x0, x1, x2, x3⟩
    case false =>
      have HD := Lib.hid (show rowReadM d0 = (read0, false) by unfold rowReadM; rw [if_neg (fun h9 => by have h8 := h9.2.2; rw [HO.out, hok] at h8; cases h8)])
      clear hok
      have f12 : w5.cell? ⟨w.heap.size, 0, none⟩ = some (.int .i64 0) := (S.at_ 1 rfl).cell 0
      have f13 := (S.at_ 1 rfl).free 0
      have f14 : w5.cell? ⟨w.heap.size, 1, none⟩ = some (.int .i64 0) := (S.at_ 1 rfl).cell 1
      have f15 := (S.at_ 1 rfl).free 1
      have f16 : w5.cell? ⟨w.heap.size, 2, none⟩ = some (.int .i64 0) := (S.at_ 1 rfl).cell 2
      have f17 := (S.at_ 1 rfl).free 2
      have f18 : w5.cell? ⟨w.heap.size, 3, none⟩ = some (.int .i64 0) := (S.at_ 1 rfl).cell 3
      have f19 := (S.at_ 1 rfl).free 3
      replace S := S.put 1 rfl 0 (.int .i64 0)
      replace c := c.setCell (p := ⟨w.heap.size, 0, none⟩) (by show w.heap.size ≤ w.heap.size; omega) (.int .i64 0)
      replace S := S.put 1 rfl 1 (.int .i64 0)
      replace c := c.setCell (p := ⟨w.heap.size, 1, none⟩) (by show w.heap.size ≤ w.heap.size; omega) (.int .i64 0)
      replace S := S.put 1 rfl 2 (.int .i64 0)
      replace c := c.setCell (p := ⟨w.heap.size, 2, none⟩) (by show w.heap.size ≤ w.heap.size; omega) (.int .i64 0)
      replace S := S.put 1 rfl 3 (.int .i64 0)
      replace c := c.setCell (p := ⟨w.heap.size, 3, none⟩) (by show w.heap.size ≤ w.heap.size; omega) (.int .i64 0)
      have r0 := Lib.hid (show ((((w5.setCell ⟨w.heap.size, 0, none⟩ (.int .i64 0)).setCell ⟨w.heap.size, 1, none⟩ (.int .i64 0)).setCell ⟨w.heap.size, 2, none⟩ (.int .i64 0)).setCell ⟨w.heap.size, 3, none⟩ (.int .i64 0)).cell? ⟨w.heap.size, 0, none⟩ = some (.int .i64 0) from (S.at_ 1 rfl).cell 0)
      have r1 := Lib.hid (show ((((w5.setCell ⟨w.heap.size, 0, none⟩ (.int .i64 0)).setCell ⟨w.heap.size, 1, none⟩ (.int .i64 0)).setCell ⟨w.heap.size, 2, none⟩ (.int .i64 0)).setCell ⟨w.heap.size, 3, none⟩ (.int .i64 0)).cell? ⟨w.heap.size, 1, none⟩ = some (.int .i64 0) from (S.at_ 1 rfl).cell 1)
      have r2 := Lib.hid (show ((((w5.setCell ⟨w.heap.size, 0, none⟩ (.int .i64 0)).setCell ⟨w.heap.size, 1, none⟩ (.int .i64 0)).setCell ⟨w.heap.size, 2, none⟩ (.int .i64 0)).setCell ⟨w.heap.size, 3, none⟩ (.int .i64 0)).cell? ⟨w.heap.size, 2, none⟩ = some (.int .i64 0) from (S.at_ 1 rfl).cell 2)
      have r3 := Lib.hid (show ((((w5.setCell ⟨w.heap.size, 0, none⟩ (.int .i64 0)).setCell ⟨w.heap.size, 1, none⟩ (.int .i64 0)).setCell ⟨w.heap.size, 2, none⟩ (.int .i64 0)).setCell ⟨w.heap.size, 3, none⟩ (.int .i64 0)).cell? ⟨w.heap.size, 3, none⟩ = some (.int .i64 0) from (S.at_ 1 rfl).cell 3)
      have CC := Lib.hid c
      clear S c
      go_wp2
      exact bodyPost_ret (v := .tuple #[.agg #[.int .i64 0, .int .i64 0, .int .i64 0, .int .i64 0], .bool false]) (by simp [results, Try.results21, go_sem, r0.out, r1.out, r2.out, r3.out]) rfl ⟨by rw [HD.out] <;> rfl, CC.out⟩
    case true =>
      have HD := Lib.hid (show rowReadM d0 = (⟨x0, x1, x2, x3⟩, true) by unfold rowReadM; rw [if_pos ⟨HL.out, HK.out, by rw [HO.out]; exact hok⟩, HO.out])
      clear hok
      have f12 : w5.cell? ⟨qo, 0, none⟩ = some (.int .i64 x0) := (S.at_ 0 rfl).cell 0
      have f13 : w5.cell? ⟨qo, 1, none⟩ = some (.int .i64 x1) := (S.at_ 0 rfl).cell 1
      have f14 : w5.cell? ⟨qo, 2, none⟩ = some (.int .i64 x2) := (S.at_ 0 rfl).cell 2
      have f15 : w5.cell? ⟨qo, 3, none⟩ = some (.int .i64 x3) := (S.at_ 0 rfl).cell 3
      have f16 : w5.cell? ⟨w.heap.size, 0, none⟩ = some (.int .i64 0) := (S.at_ 1 rfl).cell 0
      have f17 := (S.at_ 1 rfl).free 0
      have f18 : w5.cell? ⟨w.heap.size, 1, none⟩ = some (.int .i64 0) := (S.at_ 1 rfl).cell 1
      have f19 := (S.at_ 1 rfl).free 1
      have f20 : w5.cell? ⟨w.heap.size, 2, none⟩ = some (.int .i64 0) := (S.at_ 1 rfl).cell 2
      have f21 := (S.at_ 1 rfl).free 2
      have f22 : w5.cell? ⟨w.heap.size, 3, none⟩ = some (.int .i64 0) := (S.at_ 1 rfl).cell 3
      have f23 := (S.at_ 1 rfl).free 3
      replace S := S.put 1 rfl 0 (.int .i64 x0)
      replace c := c.setCell (p := ⟨w.heap.size, 0, none⟩) (by show w.heap.size ≤ w.heap.size; omega) (.int .i64 x0)
      replace S := S.put 1 rfl 1 (.int .i64 x1)
      replace c := c.setCell (p := ⟨w.heap.size, 1, none⟩) (by show w.heap.size ≤ w.heap.size; omega) (.int .i64 x1)
      replace S := S.put 1 rfl 2 (.int .i64 x2)
      replace c := c.setCell (p := ⟨w.heap.size, 2, none⟩) (by show w.heap.size ≤ w.heap.size; omega) (.int .i64 x2)
      replace S := S.put 1 rfl 3 (.int .i64 x3)
      replace c := c.setCell (p := ⟨w.heap.size, 3, none⟩) (by show w.heap.size ≤ w.heap.size; omega) (.int .i64 x3)
      have r0 := Lib.hid (show ((((w5.setCell ⟨w.heap.size, 0, none⟩ (.int .i64 x0)).setCell ⟨w.heap.size, 1, none⟩ (.int .i64 x1)).setCell ⟨w.heap.size, 2, none⟩ (.int .i64 x2)).setCell ⟨w.heap.size, 3, none⟩ (.int .i64 x3)).cell? ⟨w.heap.size, 0, none⟩ = some (.int .i64 x0) from (S.at_ 1 rfl).cell 0)
      have r1 := Lib.hid (show ((((w5.setCell ⟨w.heap.size, 0, none⟩ (.int .i64 x0)).setCell ⟨w.heap.size, 1, none⟩ (.int .i64 x1)).setCell ⟨w.heap.size, 2, none⟩ (.int .i64 x2)).setCell ⟨w.heap.size, 3, none⟩ (.int .i64 x3)).cell? ⟨w.heap.size, 1, none⟩ = some (.int .i64 x1) from (S.at_ 1 rfl).cell 1)
      have r2 := Lib.hid (show ((((w5.setCell ⟨w.heap.size, 0, none⟩ (.int .i64 x0)).setCell ⟨w.heap.size, 1, none⟩ (.int .i64 x1)).setCell ⟨w.heap.size, 2, none⟩ (.int .i64 x2)).setCell ⟨w.heap.size, 3, none⟩ (.int .i64 x3)).cell? ⟨w.heap.size, 2, none⟩ = some (.int .i64 x2) from (S.at_ 1 rfl).cell 2)
      have r3 := Lib.hid (show ((((w5.setCell ⟨w.heap.size, 0, none⟩ (.int .i64 x0)).setCell ⟨w.heap.size, 1, none⟩ (.int .i64 x1)).setCell ⟨w.heap.size, 2, none⟩ (.int .i64 x2)).setCell ⟨w.heap.size, 3, none⟩ (.int .i64 x3)).cell? ⟨w.heap.size, 3, none⟩ = some (.int .i64 x3) from (S.at_ 1 rfl).cell 3)
      have CC := Lib.hid c
      clear S c
      go_wp2
      exact bodyPost_ret (v := .tuple #[.agg #[.int .i64 x0, .int .i64 x1, .int .i64 x2, .int .i64 x3], .bool true]) (by simp [results, Try.results21, go_sem, r0.out, r1.out, r2.out, r3.out]) rfl ⟨by rw [HD.out] <;> rfl, CC.out⟩

set_option maxHeartbeats 12800000 in
theorem sRowValue_at (A : Option Addr) (n c : Nat) (d0 : List Int) (w : World) (h : Rd w w.heap.size (rowCells d0) [.slice A n c]) (hs : d0.length ≤ 1048576) :
    Calls Try.prog 24 #[.slice A n c] w fun e w' => e = .returned (.tuple #[.agg #[.int .i64 (rowValueM d0).1.cl, .int .i64 (rowValueM d0).1.sq, .int .i64 (rowValueM d0).1.ix, .int .i64 (rowValueM d0).1.has, .int .i64 (rowValueM d0).1.val], .bool (rowValueM d0).2]) ∧ Below w.heap.size w w' := by
  obtain ⟨_, _, _, e, hi, hnc, hcm⟩ := h.irow
  injection e with e1 e2 e3
  subst e1 e2 e3
  have hn : n ≤ 1048577 := by have := hi.1; omega
  have HI := Lib.hid hi
  have HL := Lib.hid hi.1
  obtain ⟨cc, hcc⟩ : ∃ q, q = c := ⟨_, rfl⟩
  rw [← hcc] at hnc hcm ⊢
  unfold maxLen at hcm
  clear h hs hcc c
  have S := Sep.nil w w.heap.size
  have c := Below.refl w.heap.size w
  replace S := S.boxAt c.size (w.heap.size) rfl #[.int .i64 0, .int .i64 0, .int .i64 0, .int .i64 0, .int .i64 0] 46
  replace c := c.alloc c.size (.cells #[.int .i64 0, .int .i64 0, .int .i64 0, .int .i64 0, .int .i64 0] 46)
  by_cases hK : n = 6 ∧ d0.getD 0 0 = 7
  case neg =>
    have HD := Lib.hid (show rowValueM d0 = (value0, false) by unfold rowValueM; rw [if_neg (fun h9 => hK ⟨by have := HL.out; omega, h9.2.1⟩)])
    have g1 : (decide ((n : Int) = 6) && decide (d0.getD 0 0 = 7)) = false := by rw [Bool.and_eq_false_iff, decide_eq_false_iff_not, decide_eq_false_iff_not]; omega
    have KK := Lib.hid (sIs_any A n cc w.heap.size d0 7 6 _ (HI.out.below c) (by decide))
    rw [g1] at KK
    clear hi hK hn hnc hcm g1
    go_enter Try.func24, Try.ntmps24
    go_wp2_with fail
    generalize w.alloc (.cells #[.int .i64 0, .int .i64 0, .int .i64 0, .int .i64 0, .int .i64 0] 46) = w1 at *
    refine KK.out.mono ?_
    rintro e w9 ⟨rfl, rfl⟩
    clear KK
    have f0 : w1.cell? ⟨w.heap.size, 0, none⟩ = some (.int .i64 0) := (S.at_ 0 rfl).cell 0
    have f1 := (S.at_ 0 rfl).free 0
    have f2 : w1.cell? ⟨w.heap.size, 1, none⟩ = some (.int .i64 0) := (S.at_ 0 rfl).cell 1
    have f3 := (S.at_ 0 rfl).free 1
    have f4 : w1.cell? ⟨w.heap.size, 2, none⟩ = some (.int .i64 0) := (S.at_ 0 rfl).cell 2
    have f5 := (S.at_ 0 rfl).free 2
    have f6 : w1.cell? ⟨w.heap.size, 3, none⟩ = some (.int .i64 0) := (S.at_ 0 rfl).cell 3
    have f7 := (S.at_ 0 rfl).free 3
    have f8 : w1.cell? ⟨w.heap.size, 4, none⟩ = some (.int .i64 0) := (S.at_ 0 rfl).cell 4
    have f9 := (S.at_ 0 rfl).free 4
    replace S := S.put 0 rfl 0 (.int .i64 0)
    replace c := c.setCell (p := ⟨w.heap.size, 0, none⟩) (by show w.heap.size ≤ w.heap.size; omega) (.int .i64 0)
    replace S := S.put 0 rfl 1 (.int .i64 0)
    replace c := c.setCell (p := ⟨w.heap.size, 1, none⟩) (by show w.heap.size ≤ w.heap.size; omega) (.int .i64 0)
    replace S := S.put 0 rfl 2 (.int .i64 0)
    replace c := c.setCell (p := ⟨w.heap.size, 2, none⟩) (by show w.heap.size ≤ w.heap.size; omega) (.int .i64 0)
    replace S := S.put 0 rfl 3 (.int .i64 0)
    replace c := c.setCell (p := ⟨w.heap.size, 3, none⟩) (by show w.heap.size ≤ w.heap.size; omega) (.int .i64 0)
    replace S := S.put 0 rfl 4 (.int .i64 0)
    replace c := c.setCell (p := ⟨w.heap.size, 4, none⟩) (by show w.heap.size ≤ w.heap.size; omega) (.int .i64 0)
    have r0 := Lib.hid (show (((((w1.setCell ⟨w.heap.size, 0, none⟩ (.int .i64 0)).setCell ⟨w.heap.size, 1, none⟩ (.int .i64 0)).setCell ⟨w.heap.size, 2, none⟩ (.int .i64 0)).setCell ⟨w.heap.size, 3, none⟩ (.int .i64 0)).setCell ⟨w.heap.size, 4, none⟩ (.int .i64 0)).cell? ⟨w.heap.size, 0, none⟩ = some (.int .i64 0) from (S.at_ 0 rfl).cell 0)
    have r1 := Lib.hid (show (((((w1.setCell ⟨w.heap.size, 0, none⟩ (.int .i64 0)).setCell ⟨w.heap.size, 1, none⟩ (.int .i64 0)).setCell ⟨w.heap.size, 2, none⟩ (.int .i64 0)).setCell ⟨w.heap.size, 3, none⟩ (.int .i64 0)).setCell ⟨w.heap.size, 4, none⟩ (.int .i64 0)).cell? ⟨w.heap.size, 1, none⟩ = some (.int .i64 0) from (S.at_ 0 rfl).cell 1)
    have r2 := Lib.hid (show (((((w1.setCell ⟨w.heap.size, 0, none⟩ (.int .i64 0)).setCell ⟨w.heap.size, 1, none⟩ (.int .i64 0)).setCell ⟨w.heap.size, 2, none⟩ (.int .i64 0)).setCell ⟨w.heap.size, 3, none⟩ (.int .i64 0)).setCell ⟨w.heap.size, 4, none⟩ (.int .i64 0)).cell? ⟨w.heap.size, 2, none⟩ = some (.int .i64 0) from (S.at_ 0 rfl).cell 2)
    have r3 := Lib.hid (show (((((w1.setCell ⟨w.heap.size, 0, none⟩ (.int .i64 0)).setCell ⟨w.heap.size, 1, none⟩ (.int .i64 0)).setCell ⟨w.heap.size, 2, none⟩ (.int .i64 0)).setCell ⟨w.heap.size, 3, none⟩ (.int .i64 0)).setCell ⟨w.heap.size, 4, none⟩ (.int .i64 0)).cell? ⟨w.heap.size, 3, none⟩ = some (.int .i64 0) from (S.at_ 0 rfl).cell 3)
    have r4 := Lib.hid (show (((((w1.setCell ⟨w.heap.size, 0, none⟩ (.int .i64 0)).setCell ⟨w.heap.size, 1, none⟩ (.int .i64 0)).setCell ⟨w.heap.size, 2, none⟩ (.int .i64 0)).setCell ⟨w.heap.size, 3, none⟩ (.int .i64 0)).setCell ⟨w.heap.size, 4, none⟩ (.int .i64 0)).cell? ⟨w.heap.size, 4, none⟩ = some (.int .i64 0) from (S.at_ 0 rfl).cell 4)
    have CC := Lib.hid c
    clear S c
    go_wp2
    exact bodyPost_ret (v := .tuple #[.agg #[.int .i64 0, .int .i64 0, .int .i64 0, .int .i64 0, .int .i64 0], .bool false]) (by simp [results, Try.results24, go_sem, r0.out, r1.out, r2.out, r3.out, r4.out]) rfl ⟨by rw [HD.out] <;> rfl, CC.out⟩
  case pos =>
    have hn9 := hK.1
    subst hn9
    have hd0 := hK.2
    obtain ⟨b, off, rfl, hb, hc⟩ := hi.2 (by omega)
    obtain ⟨x0, hx0⟩ : ∃ x, x = d0.getD 1 0 := ⟨_, rfl⟩
    have k0 := hc 1 (by omega)
    rw [← hx0] at k0
    obtain ⟨x1, hx1⟩ : ∃ x, x = d0.getD 2 0 := ⟨_, rfl⟩
    have k1 := hc 2 (by omega)
    rw [← hx1] at k1
    obtain ⟨x2, hx2⟩ : ∃ x, x = d0.getD 3 0 := ⟨_, rfl⟩
    have k2 := hc 3 (by omega)
    rw [← hx2] at k2
    obtain ⟨x3, hx3⟩ : ∃ x, x = d0.getD 4 0 := ⟨_, rfl⟩
    have k3 := hc 4 (by omega)
    rw [← hx3] at k3
    obtain ⟨x4, hx4⟩ : ∃ x, x = d0.getD 5 0 := ⟨_, rfl⟩
    have k4 := hc 5 (by omega)
    rw [← hx4] at k4
    have HO := Lib.hid (show ofValue d0 = ⟨x0, x1, x2, x3, x4⟩ by unfold ofValue; rw [hx0, hx1, hx2, hx3, hx4])
    have HK := Lib.hid hd0
    have KK := Lib.hid (sIs_any (some ⟨b, off, none⟩) 6 cc w.heap.size d0 7 6 _ (HI.out.below c) (by decide))
    rw [decide_eq_true hd0, show decide (((6 : Nat) : Int) = 6) = true from rfl, Bool.and_true] at KK
    clear hc hi hd0 hK hn hnc hcm hx0 hx1 hx2 hx3 hx4
    go_enter Try.func24, Try.ntmps24
    go_wp2_with fail
    generalize w.alloc (.cells #[.int .i64 0, .int .i64 0, .int .i64 0, .int .i64 0, .int .i64 0] 46) = w1 at *
    refine KK.out.mono ?_
    rintro e w9 ⟨rfl, rfl⟩
    clear KK
    go_wp2_with fail
    refine wp_region_L (fun v => v.cell? ⟨b, off + 1, none⟩ = some (.int .i64 x0) ∧ v.cell? ⟨b, off + 2, none⟩ = some (.int .i64 x1) ∧ v.cell? ⟨b, off + 3, none⟩ = some (.int .i64 x2) ∧ v.cell? ⟨b, off + 4, none⟩ = some (.int .i64 x3) ∧ v.cell? ⟨b, off + 5, none⟩ = some (.int .i64 x4)) 17 (by kernel_rfl) ?_
    replace S := S.keep ((Below.refl _ _).drew)
    replace c := c.drew
    generalize w1.drew = w2 at *
    have HF : w2.cell? ⟨b, off + 1, none⟩ = some (.int .i64 x0) ∧ w2.cell? ⟨b, off + 2, none⟩ = some (.int .i64 x1) ∧ w2.cell? ⟨b, off + 3, none⟩ = some (.int .i64 x2) ∧ w2.cell? ⟨b, off + 4, none⟩ = some (.int .i64 x3) ∧ w2.cell? ⟨b, off + 5, none⟩ = some (.int .i64 x4) := ⟨(c.cell (p := ⟨b, off + 1, none⟩) (show b < _ by omega)).trans k0, (c.cell (p := ⟨b, off + 2, none⟩) (show b < _ by omega)).trans k1, (c.cell (p := ⟨b, off + 3, none⟩) (show b < _ by omega)).trans k2, (c.cell (p := ⟨b, off + 4, none⟩) (show b < _ by omega)).trans k3, (c.cell (p := ⟨b, off + 5, none⟩) (show b < _ by omega)).trans k4⟩
    refine wpAnyL_take (i := 0) (v := ?_) rfl rfl (by kernel_rfl) (by kernel_rfl) (by kernel_rfl) (by kernel_rfl) (by kernel_rfl) (fun _ _ _ h => h) HF (Or.inl ⟨by rfl, ?_⟩) ?_
    rotate_left 1
    · (rintro v ⟨a0, a1, a2, a3, a4⟩; go_simp; try with_reducible rfl)
    try simp only [Act.put]
    refine wpAnyL_take (i := 1) (v := ?_) rfl rfl (by kernel_rfl) (by kernel_rfl) (by kernel_rfl) (by kernel_rfl) (by kernel_rfl) (fun _ _ _ h => h) HF (Or.inl ⟨by rfl, ?_⟩) ?_
    rotate_left 1
    · (rintro v ⟨a0, a1, a2, a3, a4⟩; go_simp; try with_reducible rfl)
    try simp only [Act.put]
    refine wpAnyL_take (i := 2) (v := ?_) rfl rfl (by kernel_rfl) (by kernel_rfl) (by kernel_rfl) (by kernel_rfl) (by kernel_rfl) (fun _ _ _ h => h) HF (Or.inl ⟨by rfl, ?_⟩) ?_
    rotate_left 1
    · (rintro v ⟨a0, a1, a2, a3, a4⟩; go_simp; try with_reducible rfl)
    try simp only [Act.put]
    refine wpAnyL_take (i := 3) (v := ?_) rfl rfl (by kernel_rfl) (by kernel_rfl) (by kernel_rfl) (by kernel_rfl) (by kernel_rfl) (fun _ _ _ h => h) HF (Or.inl ⟨by rfl, ?_⟩) ?_
    rotate_left 1
    · (rintro v ⟨a0, a1, a2, a3, a4⟩; go_simp; try with_reducible rfl)
    try simp only [Act.put]
    refine wpAnyL_take (i := 4) (v := ?_) rfl rfl (by kernel_rfl) (by kernel_rfl) (by kernel_rfl) (by kernel_rfl) (by kernel_rfl) (fun _ _ _ h => h) HF (Or.inl ⟨by rfl, ?_⟩) ?_
    rotate_left 1
    · (rintro v ⟨a0, a1, a2, a3, a4⟩; go_simp; try with_reducible rfl)
    try simp only [Act.put]
    refine wpAnyL_take (i := 5) (v := ?_) rfl rfl (by kernel_rfl) (by kernel_rfl) (by kernel_rfl) (by kernel_rfl) (by kernel_rfl) (fun _ _ _ h => h) HF (Or.inl ⟨by rfl, ?_⟩) ?_
    rotate_left 1
    · (rintro v ⟨a0, a1, a2, a3, a4⟩; go_simp; try with_reducible rfl)
    try simp only [Act.put]
    refine wpAnyL_take (i := 6) (v := ?_) rfl rfl (by kernel_rfl) (by kernel_rfl) (by kernel_rfl) (by kernel_rfl) (by kernel_rfl) (fun _ _ _ h => h) HF (Or.inl ⟨by rfl, ?_⟩) ?_
    rotate_left 1
    · (rintro v ⟨a0, a1, a2, a3, a4⟩; go_simp; try with_reducible rfl)
    try simp only [Act.put]
    refine wpAnyL_take (i := 7) (v := ?_) rfl rfl (by kernel_rfl) (by kernel_rfl) (by kernel_rfl) (by kernel_rfl) (by kernel_rfl) (fun _ _ _ h => h) HF (Or.inl ⟨by rfl, ?_⟩) ?_
    rotate_left 1
    · (rintro v ⟨a0, a1, a2, a3, a4⟩; go_simp; try with_reducible rfl)
    try simp only [Act.put]
    refine wpAnyL_take (i := 8) (v := ?_) rfl rfl (by kernel_rfl) (by kernel_rfl) (by kernel_rfl) (by kernel_rfl) (by kernel_rfl) (fun _ _ _ h => h) HF (Or.inl ⟨by rfl, ?_⟩) ?_
    rotate_left 1
    · (rintro v ⟨a0, a1, a2, a3, a4⟩; go_simp; try with_reducible rfl)
    try simp only [Act.put]
    refine wpAnyL_take (i := 9) (v := ?_) rfl rfl (by kernel_rfl) (by kernel_rfl) (by kernel_rfl) (by kernel_rfl) (by kernel_rfl) (fun _ _ _ h => h) HF (Or.inl ⟨by rfl, ?_⟩) ?_
    rotate_left 1
    · (rintro v ⟨a0, a1, a2, a3, a4⟩; go_simp; try with_reducible rfl)
    try simp only [Act.put]
    refine wpAnyL_take (i := 10) (v := ?_) rfl rfl (by kernel_rfl) (by kernel_rfl) (by kernel_rfl) (by kernel_rfl) (by kernel_rfl) (fun _ _ _ h => h) HF (Or.inl ⟨by rfl, ?_⟩) ?_
    rotate_left 1
    · (rintro v ⟨a0, a1, a2, a3, a4⟩; go_simp; try with_reducible rfl)
    try simp only [Act.put]
    refine wpAnyL_take (i := 11) (v := ?_) rfl rfl (by kernel_rfl) (by kernel_rfl) (by kernel_rfl) (by kernel_rfl) (by kernel_rfl) (fun _ _ _ h => h) HF (Or.inl ⟨by rfl, ?_⟩) ?_
    rotate_left 1
    · (rintro v ⟨a0, a1, a2, a3, a4⟩; go_simp; try with_reducible rfl)
    try simp only [Act.put]
    refine wpAnyL_take (i := 12) (v := ?_) rfl rfl (by kernel_rfl) (by kernel_rfl) (by kernel_rfl) (by kernel_rfl) (by kernel_rfl) (fun _ _ _ h => h) HF (Or.inl ⟨by rfl, ?_⟩) ?_
    rotate_left 1
    · (rintro v ⟨a0, a1, a2, a3, a4⟩; go_simp; try with_reducible rfl)
    try simp only [Act.put]
    refine wpAnyL_take (i := 13) (v := ?_) rfl rfl (by kernel_rfl) (by kernel_rfl) (by kernel_rfl) (by kernel_rfl) (by kernel_rfl) (fun _ _ _ h => h) HF (Or.inl ⟨by rfl, ?_⟩) ?_
    rotate_left 1
    · (rintro v ⟨a0, a1, a2, a3, a4⟩; go_simp; try with_reducible rfl)
    try simp only [Act.put]
    refine wpAnyL_take (i := 14) (v := ?_) rfl rfl (by kernel_rfl) (by kernel_rfl) (by kernel_rfl) (by kernel_rfl) (by kernel_rfl) (fun _ _ _ h => h) HF (Or.inl ⟨by rfl, ?_⟩) ?_
    rotate_left 1
    · (rintro v ⟨a0, a1, a2, a3, a4⟩; go_simp; try with_reducible rfl)
    try simp only [Act.put]
    refine wpAnyL_take (i := 15) (v := ?_) rfl rfl (by kernel_rfl) (by kernel_rfl) (by kernel_rfl) (by kernel_rfl) (by kernel_rfl) (fun _ _ _ h => h) HF (Or.inl ⟨by rfl, ?_⟩) ?_
    rotate_left 1
    · (rintro v ⟨a0, a1, a2, a3, a4⟩; go_simp; try with_reducible rfl)
    try simp only [Act.put]
    refine wpAnyL_step (i := 16) (by kernel_rfl) rfl rfl ?_
    intro K hK
    go_simp
    replace S := S.boxAt c.size (w2.heap.size) rfl #[.int .i64 0, .int .i64 0, .int .i64 0, .int .i64 0, .int .i64 0] 46
    replace c := c.alloc c.size (.cells #[.int .i64 0, .int .i64 0, .int .i64 0, .int .i64 0, .int .i64 0] 46)
    clear HF
    have HF : (w2.alloc (.cells #[.int .i64 0, .int .i64 0, .int .i64 0, .int .i64 0, .int .i64 0] 46)).cell? ⟨b, off + 1, none⟩ = some (.int .i64 x0) ∧ (w2.alloc (.cells #[.int .i64 0, .int .i64 0, .int .i64 0, .int .i64 0, .int .i64 0] 46)).cell? ⟨b, off + 2, none⟩ = some (.int .i64 x1) ∧ (w2.alloc (.cells #[.int .i64 0, .int .i64 0, .int .i64 0, .int .i64 0, .int .i64 0] 46)).cell? ⟨b, off + 3, none⟩ = some (.int .i64 x2) ∧ (w2.alloc (.cells #[.int .i64 0, .int .i64 0, .int .i64 0, .int .i64 0, .int .i64 0] 46)).cell? ⟨b, off + 4, none⟩ = some (.int .i64 x3) ∧ (w2.alloc (.cells #[.int .i64 0, .int .i64 0, .int .i64 0, .int .i64 0, .int .i64 0] 46)).cell? ⟨b, off + 5, none⟩ = some (.int .i64 x4) := ⟨(c.cell (p := ⟨b, off + 1, none⟩) (show b < _ by omega)).trans k0, (c.cell (p := ⟨b, off + 2, none⟩) (show b < _ by omega)).trans k1, (c.cell (p := ⟨b, off + 3, none⟩) (show b < _ by omega)).trans k2, (c.cell (p := ⟨b, off + 4, none⟩) (show b < _ by omega)).trans k3, (c.cell (p := ⟨b, off + 5, none⟩) (show b < _ by omega)).trans k4⟩
    refine hK _ _ (fun _ => HF) ?_
    clear hK K
    try simp only [Act.put]
    generalize hw : w2.alloc (.cells #[.int .i64 0, .int .i64 0, .int .i64 0, .int .i64 0, .int .i64 0] 46) = w3 at *
    clear hw
    obtain ⟨qo, hqo⟩ : ∃ q, q = w2.heap.size := ⟨_, rfl⟩
    rw [← hqo] at S ⊢
    clear hqo
    have f0 : w3.cell? ⟨qo, 0, none⟩ = some (.int .i64 0) := (S.at_ 0 rfl).cell 0
    have f1 := (S.at_ 0 rfl).free 0
    have f2 : w3.cell? ⟨qo, 1, none⟩ = some (.int .i64 0) := (S.at_ 0 rfl).cell 1
    have f3 := (S.at_ 0 rfl).free 1
    have f4 : w3.cell? ⟨qo, 2, none⟩ = some (.int .i64 0) := (S.at_ 0 rfl).cell 2
    have f5 := (S.at_ 0 rfl).free 2
    have f6 : w3.cell? ⟨qo, 3, none⟩ = some (.int .i64 0) := (S.at_ 0 rfl).cell 3
    have f7 := (S.at_ 0 rfl).free 3
    have f8 : w3.cell? ⟨qo, 4, none⟩ = some (.int .i64 0) := (S.at_ 0 rfl).cell 4
    have f9 := (S.at_ 0 rfl).free 4
    refine wpAnyL_step (i := 17) (by kernel_rfl) rfl rfl ?_
    intro K hK
    go_simp
    refine hK _ _ (fun h => nomatch (show true = false from h)) ?_
    clear hK K
    try simp only [Act.put]
    refine wpAnyL_done (by kernel_rfl) ?_ _
    replace c := c.setCell (p := ⟨qo, 0, none⟩) (S.base_le 0 rfl) (.int .i64 x0)
    replace S := S.put 0 rfl 0 (.int .i64 x0)
    replace c := c.setCell (p := ⟨qo, 1, none⟩) (S.base_le 0 rfl) (.int .i64 x1)
    replace S := S.put 0 rfl 1 (.int .i64 x1)
    replace c := c.setCell (p := ⟨qo, 2, none⟩) (S.base_le 0 rfl) (.int .i64 x2)
    replace S := S.put 0 rfl 2 (.int .i64 x2)
    replace c := c.setCell (p := ⟨qo, 3, none⟩) (S.base_le 0 rfl) (.int .i64 x3)
    replace S := S.put 0 rfl 3 (.int .i64 x3)
    replace c := c.setCell (p := ⟨qo, 4, none⟩) (S.base_le 0 rfl) (.int .i64 x4)
    replace S := S.put 0 rfl 4 (.int .i64 x4)
    clear HF
    generalize ((((w3.setCell ⟨qo, 0, none⟩ (.int .i64 x0)).setCell ⟨qo, 1, none⟩ (.int .i64 x1)).setCell ⟨qo, 2, none⟩ (.int .i64 x2)).setCell ⟨qo, 3, none⟩ (.int .i64 x3)).setCell ⟨qo, 4, none⟩ (.int .i64 x4) = w4 at *
    clear f0 f1 f2 f3 f4 f5 f6 f7 f8 f9
    have f10 : w4.cell? ⟨qo, 0, none⟩ = some (.int .i64 x0) := (S.at_ 0 rfl).cell 0
    have f11 : w4.cell? ⟨qo, 1, none⟩ = some (.int .i64 x1) := (S.at_ 0 rfl).cell 1
    have f12 : w4.cell? ⟨qo, 2, none⟩ = some (.int .i64 x2) := (S.at_ 0 rfl).cell 2
    have f13 : w4.cell? ⟨qo, 3, none⟩ = some (.int .i64 x3) := (S.at_ 0 rfl).cell 3
    have f14 : w4.cell? ⟨qo, 4, none⟩ = some (.int .i64 x4) := (S.at_ 0 rfl).cell 4
    go_wp2_with fail
    refine (sValueOk_any x0 x1 x2 x3 x4 _).mono ?_
    rintro e w5 ⟨rfl, b2⟩
    replace c := c.trans (b2.mono c.size)
    replace S := S.keep b2
    clear b2 f10 f11 f12 f13 f14
    cases hok : valueOkB ⟨x0, x1, x2, x3, x4⟩
    case false =>
      have HD := Lib.hid (show rowValueM d0 = (value0, false) by unfold rowValueM; rw [if_neg (fun h9 => by have h8 := h9.2.2; rw [HO.out, hok] at h8; cases h8)])
      clear hok
      have f15 : w5.cell? ⟨w.heap.size, 0, none⟩ = some (.int .i64 0) := (S.at_ 1 rfl).cell 0
      have f16 := (S.at_ 1 rfl).free 0
      have f17 : w5.cell? ⟨w.heap.size, 1, none⟩ = some (.int .i64 0) := (S.at_ 1 rfl).cell 1
      have f18 := (S.at_ 1 rfl).free 1
      have f19 : w5.cell? ⟨w.heap.size, 2, none⟩ = some (.int .i64 0) := (S.at_ 1 rfl).cell 2
      have f20 := (S.at_ 1 rfl).free 2
      have f21 : w5.cell? ⟨w.heap.size, 3, none⟩ = some (.int .i64 0) := (S.at_ 1 rfl).cell 3
      have f22 := (S.at_ 1 rfl).free 3
      have f23 : w5.cell? ⟨w.heap.size, 4, none⟩ = some (.int .i64 0) := (S.at_ 1 rfl).cell 4
      have f24 := (S.at_ 1 rfl).free 4
      replace S := S.put 1 rfl 0 (.int .i64 0)
      replace c := c.setCell (p := ⟨w.heap.size, 0, none⟩) (by show w.heap.size ≤ w.heap.size; omega) (.int .i64 0)
      replace S := S.put 1 rfl 1 (.int .i64 0)
      replace c := c.setCell (p := ⟨w.heap.size, 1, none⟩) (by show w.heap.size ≤ w.heap.size; omega) (.int .i64 0)
      replace S := S.put 1 rfl 2 (.int .i64 0)
      replace c := c.setCell (p := ⟨w.heap.size, 2, none⟩) (by show w.heap.size ≤ w.heap.size; omega) (.int .i64 0)
      replace S := S.put 1 rfl 3 (.int .i64 0)
      replace c := c.setCell (p := ⟨w.heap.size, 3, none⟩) (by show w.heap.size ≤ w.heap.size; omega) (.int .i64 0)
      replace S := S.put 1 rfl 4 (.int .i64 0)
      replace c := c.setCell (p := ⟨w.heap.size, 4, none⟩) (by show w.heap.size ≤ w.heap.size; omega) (.int .i64 0)
      have r0 := Lib.hid (show (((((w5.setCell ⟨w.heap.size, 0, none⟩ (.int .i64 0)).setCell ⟨w.heap.size, 1, none⟩ (.int .i64 0)).setCell ⟨w.heap.size, 2, none⟩ (.int .i64 0)).setCell ⟨w.heap.size, 3, none⟩ (.int .i64 0)).setCell ⟨w.heap.size, 4, none⟩ (.int .i64 0)).cell? ⟨w.heap.size, 0, none⟩ = some (.int .i64 0) from (S.at_ 1 rfl).cell 0)
      have r1 := Lib.hid (show (((((w5.setCell ⟨w.heap.size, 0, none⟩ (.int .i64 0)).setCell ⟨w.heap.size, 1, none⟩ (.int .i64 0)).setCell ⟨w.heap.size, 2, none⟩ (.int .i64 0)).setCell ⟨w.heap.size, 3, none⟩ (.int .i64 0)).setCell ⟨w.heap.size, 4, none⟩ (.int .i64 0)).cell? ⟨w.heap.size, 1, none⟩ = some (.int .i64 0) from (S.at_ 1 rfl).cell 1)
      have r2 := Lib.hid (show (((((w5.setCell ⟨w.heap.size, 0, none⟩ (.int .i64 0)).setCell ⟨w.heap.size, 1, none⟩ (.int .i64 0)).setCell ⟨w.heap.size, 2, none⟩ (.int .i64 0)).setCell ⟨w.heap.size, 3, none⟩ (.int .i64 0)).setCell ⟨w.heap.size, 4, none⟩ (.int .i64 0)).cell? ⟨w.heap.size, 2, none⟩ = some (.int .i64 0) from (S.at_ 1 rfl).cell 2)
      have r3 := Lib.hid (show (((((w5.setCell ⟨w.heap.size, 0, none⟩ (.int .i64 0)).setCell ⟨w.heap.size, 1, none⟩ (.int .i64 0)).setCell ⟨w.heap.size, 2, none⟩ (.int .i64 0)).setCell ⟨w.heap.size, 3, none⟩ (.int .i64 0)).setCell ⟨w.heap.size, 4, none⟩ (.int .i64 0)).cell? ⟨w.heap.size, 3, none⟩ = some (.int .i64 0) from (S.at_ 1 rfl).cell 3)
      have r4 := Lib.hid (show (((((w5.setCell ⟨w.heap.size, 0, none⟩ (.int .i64 0)).setCell ⟨w.heap.size, 1, none⟩ (.int .i64 0)).setCell ⟨w.heap.size, 2, none⟩ (.int .i64 0)).setCell ⟨w.heap.size, 3, none⟩ (.int .i64 0)).setCell ⟨w.heap.size, 4, none⟩ (.int .i64 0)).cell? ⟨w.heap.size, 4, none⟩ = some (.int .i64 0) from (S.at_ 1 rfl).cell 4)
      have CC := Lib.hid c
      clear S c
      go_wp2
      exact bodyPost_ret (v := .tuple #[.agg #[.int .i64 0, .int .i64 0, .int .i64 0, .int .i64 0, .int .i64 0], .bool false]) (by simp [results, Try.results24, go_sem, r0.out, r1.out, r2.out, r3.out, r4.out]) rfl ⟨by rw [HD.out] <;> rfl, CC.out⟩
    case true =>
      have HD := Lib.hid (show rowValueM d0 = (⟨x0, x1, x2, x3, x4⟩, true) by unfold rowValueM; rw [if_pos ⟨HL.out, HK.out, by rw [HO.out]; exact hok⟩, HO.out])
      clear hok
      have f15 : w5.cell? ⟨qo, 0, none⟩ = some (.int .i64 x0) := (S.at_ 0 rfl).cell 0
      have f16 : w5.cell? ⟨qo, 1, none⟩ = some (.int .i64 x1) := (S.at_ 0 rfl).cell 1
      have f17 : w5.cell? ⟨qo, 2, none⟩ = some (.int .i64 x2) := (S.at_ 0 rfl).cell 2
      have f18 : w5.cell? ⟨qo, 3, none⟩ = some (.int .i64 x3) := (S.at_ 0 rfl).cell 3
      have f19 : w5.cell? ⟨qo, 4, none⟩ = some (.int .i64 x4) := (S.at_ 0 rfl).cell 4
      have f20 : w5.cell? ⟨w.heap.size, 0, none⟩ = some (.int .i64 0) := (S.at_ 1 rfl).cell 0
      have f21 := (S.at_ 1 rfl).free 0
      have f22 : w5.cell? ⟨w.heap.size, 1, none⟩ = some (.int .i64 0) := (S.at_ 1 rfl).cell 1
      have f23 := (S.at_ 1 rfl).free 1
      have f24 : w5.cell? ⟨w.heap.size, 2, none⟩ = some (.int .i64 0) := (S.at_ 1 rfl).cell 2
      have f25 := (S.at_ 1 rfl).free 2
      have f26 : w5.cell? ⟨w.heap.size, 3, none⟩ = some (.int .i64 0) := (S.at_ 1 rfl).cell 3
      have f27 := (S.at_ 1 rfl).free 3
      have f28 : w5.cell? ⟨w.heap.size, 4, none⟩ = some (.int .i64 0) := (S.at_ 1 rfl).cell 4
      have f29 := (S.at_ 1 rfl).free 4
      replace S := S.put 1 rfl 0 (.int .i64 x0)
      replace c := c.setCell (p := ⟨w.heap.size, 0, none⟩) (by show w.heap.size ≤ w.heap.size; omega) (.int .i64 x0)
      replace S := S.put 1 rfl 1 (.int .i64 x1)
      replace c := c.setCell (p := ⟨w.heap.size, 1, none⟩) (by show w.heap.size ≤ w.heap.size; omega) (.int .i64 x1)
      replace S := S.put 1 rfl 2 (.int .i64 x2)
      replace c := c.setCell (p := ⟨w.heap.size, 2, none⟩) (by show w.heap.size ≤ w.heap.size; omega) (.int .i64 x2)
      replace S := S.put 1 rfl 3 (.int .i64 x3)
      replace c := c.setCell (p := ⟨w.heap.size, 3, none⟩) (by show w.heap.size ≤ w.heap.size; omega) (.int .i64 x3)
      replace S := S.put 1 rfl 4 (.int .i64 x4)
      replace c := c.setCell (p := ⟨w.heap.size, 4, none⟩) (by show w.heap.size ≤ w.heap.size; omega) (.int .i64 x4)
      have r0 := Lib.hid (show (((((w5.setCell ⟨w.heap.size, 0, none⟩ (.int .i64 x0)).setCell ⟨w.heap.size, 1, none⟩ (.int .i64 x1)).setCell ⟨w.heap.size, 2, none⟩ (.int .i64 x2)).setCell ⟨w.heap.size, 3, none⟩ (.int .i64 x3)).setCell ⟨w.heap.size, 4, none⟩ (.int .i64 x4)).cell? ⟨w.heap.size, 0, none⟩ = some (.int .i64 x0) from (S.at_ 1 rfl).cell 0)
      have r1 := Lib.hid (show (((((w5.setCell ⟨w.heap.size, 0, none⟩ (.int .i64 x0)).setCell ⟨w.heap.size, 1, none⟩ (.int .i64 x1)).setCell ⟨w.heap.size, 2, none⟩ (.int .i64 x2)).setCell ⟨w.heap.size, 3, none⟩ (.int .i64 x3)).setCell ⟨w.heap.size, 4, none⟩ (.int .i64 x4)).cell? ⟨w.heap.size, 1, none⟩ = some (.int .i64 x1) from (S.at_ 1 rfl).cell 1)
      have r2 := Lib.hid (show (((((w5.setCell ⟨w.heap.size, 0, none⟩ (.int .i64 x0)).setCell ⟨w.heap.size, 1, none⟩ (.int .i64 x1)).setCell ⟨w.heap.size, 2, none⟩ (.int .i64 x2)).setCell ⟨w.heap.size, 3, none⟩ (.int .i64 x3)).setCell ⟨w.heap.size, 4, none⟩ (.int .i64 x4)).cell? ⟨w.heap.size, 2, none⟩ = some (.int .i64 x2) from (S.at_ 1 rfl).cell 2)
      have r3 := Lib.hid (show (((((w5.setCell ⟨w.heap.size, 0, none⟩ (.int .i64 x0)).setCell ⟨w.heap.size, 1, none⟩ (.int .i64 x1)).setCell ⟨w.heap.size, 2, none⟩ (.int .i64 x2)).setCell ⟨w.heap.size, 3, none⟩ (.int .i64 x3)).setCell ⟨w.heap.size, 4, none⟩ (.int .i64 x4)).cell? ⟨w.heap.size, 3, none⟩ = some (.int .i64 x3) from (S.at_ 1 rfl).cell 3)
      have r4 := Lib.hid (show (((((w5.setCell ⟨w.heap.size, 0, none⟩ (.int .i64 x0)).setCell ⟨w.heap.size, 1, none⟩ (.int .i64 x1)).setCell ⟨w.heap.size, 2, none⟩ (.int .i64 x2)).setCell ⟨w.heap.size, 3, none⟩ (.int .i64 x3)).setCell ⟨w.heap.size, 4, none⟩ (.int .i64 x4)).cell? ⟨w.heap.size, 4, none⟩ = some (.int .i64 x4) from (S.at_ 1 rfl).cell 4)
      have CC := Lib.hid c
      clear S c
      go_wp2
      exact bodyPost_ret (v := .tuple #[.agg #[.int .i64 x0, .int .i64 x1, .int .i64 x2, .int .i64 x3, .int .i64 x4], .bool true]) (by simp [results, Try.results24, go_sem, r0.out, r1.out, r2.out, r3.out, r4.out]) rfl ⟨by rw [HD.out] <;> rfl, CC.out⟩

set_option maxHeartbeats 6400000 in
theorem sRowOne_any (A : Option Addr) (n cc B : Nat) (d : List Int) (kk lo hi : Int) (w : World) (h : IRow w B A n d) :
    Calls Try.prog 33 #[.slice A n cc, .int .i64 kk, .int .i64 lo, .int .i64 hi] w fun e w' => e = .returned (.tuple #[.int .i64 (rowOneM kk lo hi d).1, .bool (rowOneM kk lo hi d).2]) ∧ w = w' := by
  have KK := Lib.hid (sIs_any A n cc B d kk 2 w h (by decide))
  have HL := Lib.hid h.1
  by_cases hK : n = 2 ∧ d.getD 0 0 = kk
  case neg =>
    have HD := Lib.hid (show rowOneM kk lo hi d = (0, false) by unfold rowOneM; rw [if_neg (fun h9 => hK ⟨by have := HL.out; omega, h9.2.1⟩)])
    rw [show (decide ((n : Int) = 2) && decide (d.getD 0 0 = kk)) = false by rw [Bool.and_eq_false_iff, decide_eq_false_iff_not, decide_eq_false_iff_not]; omega] at KK
    clear h hK
    go_enter Try.func33, Try.ntmps33
    go_wp2_with (first | (go_at_call 27; refine KK.out.mono ?_; rintro e w9 ⟨rfl, rfl⟩))
    exact bodyPost_ret (v := .tuple #[.int .i64 0, .bool false]) (by simp [results, Try.results33, go_sem]) rfl ⟨by rw [HD.out], rfl⟩
  case pos =>
    have hn9 := hK.1
    subst hn9
    have hd0 := hK.2
    obtain ⟨b, off, rfl, hb, hc⟩ := h.2 (by omega)
    obtain ⟨x0, hx0⟩ : ∃ x, x = d.getD 1 0 := ⟨_, rfl⟩
    have k0 := hc 1 (by omega)
    rw [← hx0] at k0
    rw [decide_eq_true hd0, show decide (((2 : Nat) : Int) = 2) = true from rfl, Bool.and_true] at KK
    have HK := Lib.hid hd0
    have HX := Lib.hid hx0
    clear h hc hd0 hK hx0
    by_cases hin : lo ≤ x0 ∧ x0 ≤ hi
    case neg =>
      have HD := Lib.hid (show rowOneM kk lo hi d = (0, false) by unfold rowOneM; rw [if_neg (fun h9 => hin (by have h8 := (inB_iff _ _ _).1 h9.2.2; rw [HX.out]; exact h8))])
      have g1 : (decide (lo ≤ x0) && decide (x0 ≤ hi)) = false := by rw [Bool.and_eq_false_iff, decide_eq_false_iff_not, decide_eq_false_iff_not]; omega
      clear hin
      go_enter Try.func33, Try.ntmps33
      go_wp2_with (first | (go_at_call 27; refine KK.out.mono ?_; rintro e w9 ⟨rfl, rfl⟩) | (go_at_call 42; refine (in_any _ _ _ _).mono ?_; rintro e w' ⟨rfl, rfl⟩))
      exact bodyPost_ret (v := .tuple #[.int .i64 0, .bool false]) (by simp [results, Try.results33, go_sem]) rfl ⟨by rw [HD.out], rfl⟩
    case pos =>
      have HD := Lib.hid (show rowOneM kk lo hi d = (x0, true) by unfold rowOneM; rw [if_pos ⟨HL.out, HK.out, (inB_iff _ _ _).2 (by rw [← HX.out]; exact hin)⟩, HX.out])
      have g1 : decide (lo ≤ x0) = true := decide_eq_true hin.1
      have g2 : decide (x0 ≤ hi) = true := decide_eq_true hin.2
      clear hin
      go_enter Try.func33, Try.ntmps33
      go_wp2_with (first | (go_at_call 27; refine KK.out.mono ?_; rintro e w9 ⟨rfl, rfl⟩) | (go_at_call 42; refine (in_any _ _ _ _).mono ?_; rintro e w' ⟨rfl, rfl⟩))
      exact bodyPost_ret (v := .tuple #[.int .i64 x0, .bool true]) (by simp [results, Try.results33, go_sem]) rfl ⟨by rw [HD.out], rfl⟩

set_option maxHeartbeats 3200000 in
theorem sRowFetch_at (A : Option Addr) (n c : Nat) (d0 : List Int) (w : World) (h : Rd w w.heap.size (rowCells d0) [.slice A n c]) (_hs : d0.length ≤ 1048576) :
    Calls Try.prog 17 #[.slice A n c] w fun e w' => e = .returned (.tuple #[.int .i64 (rowFetchM d0).1, .bool (rowFetchM d0).2]) ∧ Below w.heap.size w w' := by
  obtain ⟨_, _, _, e, hi, _, _⟩ := h.irow
  injection e with e1 e2 e3
  subst e1 e2 e3
  have KK := Lib.hid (sRowOne_any A n c w.heap.size d0 3 1 2001 w hi)
  obtain ⟨y, hy⟩ : ∃ y, y = (rowFetchM d0).1 := ⟨_, rfl⟩
  obtain ⟨f, hf⟩ : ∃ f, f = (rowFetchM d0).2 := ⟨_, rfl⟩
  rw [show rowOneM 3 1 2001 d0 = rowFetchM d0 from rfl, ← hy, ← hf] at KK
  rw [← hy, ← hf]
  clear hi h hy hf
  go_enter Try.func17, Try.ntmps17
  go_wp2_with (first | (go_at_call 33; refine KK.out.mono ?_; rintro e w9 ⟨rfl, rfl⟩))
  exact bodyPost_ret (v := .tuple #[.int .i64 y, .bool f]) (by simp [results, Try.results17, go_sem]) rfl ⟨rfl, Below.refl _ _⟩
set_option maxHeartbeats 3200000 in
theorem sRowTrim_at (A : Option Addr) (n c : Nat) (d0 : List Int) (w : World) (h : Rd w w.heap.size (rowCells d0) [.slice A n c]) (_hs : d0.length ≤ 1048576) :
    Calls Try.prog 19 #[.slice A n c] w fun e w' => e = .returned (.tuple #[.int .i64 (rowTrimM d0).1, .bool (rowTrimM d0).2]) ∧ Below w.heap.size w w' := by
  obtain ⟨_, _, _, e, hi, _, _⟩ := h.irow
  injection e with e1 e2 e3
  subst e1 e2 e3
  have KK := Lib.hid (sRowOne_any A n c w.heap.size d0 5 1 2000 w hi)
  obtain ⟨y, hy⟩ : ∃ y, y = (rowTrimM d0).1 := ⟨_, rfl⟩
  obtain ⟨f, hf⟩ : ∃ f, f = (rowTrimM d0).2 := ⟨_, rfl⟩
  rw [show rowOneM 5 1 2000 d0 = rowTrimM d0 from rfl, ← hy, ← hf] at KK
  rw [← hy, ← hf]
  clear hi h hy hf
  go_enter Try.func19, Try.ntmps19
  go_wp2_with (first | (go_at_call 33; refine KK.out.mono ?_; rintro e w9 ⟨rfl, rfl⟩))
  exact bodyPost_ret (v := .tuple #[.int .i64 y, .bool f]) (by simp [results, Try.results19, go_sem]) rfl ⟨rfl, Below.refl _ _⟩
end Go.Proofs.Ytgjlfambaiakbaa

/-
  Chapter 11: requests decoded, of the model (by program, wip/gen/genlets5.py).
-/
import Derived.Test.YtgjlfambaiakbaaLetS4
import Derived.Test.YtgjlfambaiakbaaEntS3
import Derived.RegionTactic
import Derived.BigQuiet
import Derived.Laws.EntriesVeiled
namespace Go.Proofs.Ytgjlfambaiakbaa
set_option maxRecDepth 100000
open Go.RowKit

set_option linter.unusedVariables false
set_option linter.unusedSimpArgs false
theorem IRow.dropS {w : World} {B b off n m : Nat} {xs : List Int} (h : IRow w B (some ⟨b, off, none⟩) n xs) (hm : m < n) : IRow w B (some ⟨b, off + m, none⟩) (n - m) (xs.drop m) := by
  refine ⟨by rw [List.length_drop, h.1], fun _ => ?_⟩
  obtain ⟨b', off', e, hb, hc⟩ := h.2 (by omega)
  injection e with e
  injection e with e1 e2
  subst e1 e2
  refine ⟨b, off + m, rfl, hb, fun j hj => ?_⟩
  have := hc (m + j) (by omega)
  rw [Nat.add_assoc, this]
  simp [List.getD, List.getElem?_drop]
set_option maxHeartbeats 12800000 in
theorem sRowAsk_at (A : Option Addr) (n c : Nat) (d0 : List Int) (w : World) (h : Rd w w.heap.size (rowCells d0) [.slice A n c]) (hs : d0.length ≤ 1048576) :
    Calls Try.prog 9 #[.slice A n c] w fun e w' => e = .returned (.tuple #[.agg #[.int .i64 (rowAskM d0).1.cl, .int .i64 (rowAskM d0).1.sq, .int .i64 (rowAskM d0).1.kd, .int .i64 (rowAskM d0).1.oa, .int .i64 (rowAskM d0).1.ob, .int .i64 (rowAskM d0).1.oc, .int .i64 (rowAskM d0).1.od], .bool (rowAskM d0).2]) ∧ Below w.heap.size w w' := by
  obtain ⟨_, _, _, e, hi, hnc, hcm⟩ := h.irow
  injection e with e1 e2 e3
  subst e1 e2 e3
  have hn : n ≤ 1048577 := by have := hi.1; omega
  have HI := Lib.hid hi
  have HL := Lib.hid hi.1
  obtain ⟨cc, hcc⟩ : ∃ q, q = c := ⟨_, rfl⟩
  rw [← hcc] at hnc hcm ⊢
  unfold maxLen at hcm
  clear h hs hcc c
  have S := Sep.nil w w.heap.size
  have c := Below.refl w.heap.size w
  replace S := S.boxAt c.size (w.heap.size) rfl #[.int .i64 0, .int .i64 0, .int .i64 0, .int .i64 0, .int .i64 0, .int .i64 0, .int .i64 0] 26
  replace c := c.alloc c.size (.cells #[.int .i64 0, .int .i64 0, .int .i64 0, .int .i64 0, .int .i64 0, .int .i64 0, .int .i64 0] 26)
  by_cases hK : n = 8 ∧ d0.getD 0 0 = 1
  case neg =>
    have HD := Lib.hid (show rowAskM d0 = (ask0, false) by unfold rowAskM; rw [if_neg (fun h9 => hK ⟨by have := HL.out; omega, h9.2.1⟩)])
    have g1 : (decide ((n : Int) = 8) && decide (d0.getD 0 0 = 1)) = false := by rw [Bool.and_eq_false_iff, decide_eq_false_iff_not, decide_eq_false_iff_not]; omega
    have KK := Lib.hid (sIs_any A n cc w.heap.size d0 1 8 _ (HI.out.below c) (by decide))
    rw [g1] at KK
    clear hi hK hn hnc hcm g1
    go_enter Try.func9, Try.ntmps9
    go_wp2_with fail
    generalize w.alloc (.cells #[.int .i64 0, .int .i64 0, .int .i64 0, .int .i64 0, .int .i64 0, .int .i64 0, .int .i64 0] 26) = w1 at *
    refine KK.out.mono ?_
    rintro e w9 ⟨rfl, rfl⟩
    clear KK
    have f0 : w1.cell? ⟨w.heap.size, 0, none⟩ = some (.int .i64 0) := (S.at_ 0 rfl).cell 0
    have f1 := (S.at_ 0 rfl).free 0
    have f2 : w1.cell? ⟨w.heap.size, 1, none⟩ = some (.int .i64 0) := (S.at_ 0 rfl).cell 1
    have f3 := (S.at_ 0 rfl).free 1
    have f4 : w1.cell? ⟨w.heap.size, 2, none⟩ = some (.int .i64 0) := (S.at_ 0 rfl).cell 2
    have f5 := (S.at_ 0 rfl).free 2
    have f6 : w1.cell? ⟨w.heap.size, 3, none⟩ = some (.int .i64 0) := (S.at_ 0 rfl).cell 3
    have f7 := (S.at_ 0 rfl).free 3
    have f8 : w1.cell? ⟨w.heap.size, 4, none⟩ = some (.int .i64 0) := (S.at_ 0 rfl).cell 4
    have f9 := (S.at_ 0 rfl).free 4
    have f10 : w1.cell? ⟨w.heap.size, 5, none⟩ = some (.int .i64 0) := (S.at_ 0 rfl).cell 5
    have f11 := (S.at_ 0 rfl).free 5
    have f12 : w1.cell? ⟨w.heap.size, 6, none⟩ = some (.int .i64 0) := (S.at_ 0 rfl).cell 6
    have f13 := (S.at_ 0 rfl).free 6
    replace S := S.put 0 rfl 0 (.int .i64 0)
    replace c := c.setCell (p := ⟨w.heap.size, 0, none⟩) (by show w.heap.size ≤ w.heap.size; omega) (.int .i64 0)
    replace S := S.put 0 rfl 1 (.int .i64 0)
    replace c := c.setCell (p := ⟨w.heap.size, 1, none⟩) (by show w.heap.size ≤ w.heap.size; omega) (.int .i64 0)
    replace S := S.put 0 rfl 2 (.int .i64 0)
    replace c := c.setCell (p := ⟨w.heap.size, 2, none⟩) (by show w.heap.size ≤ w.heap.size; omega) (.int .i64 0)
    replace S := S.put 0 rfl 3 (.int .i64 0)
    replace c := c.setCell (p := ⟨w.heap.size, 3, none⟩) (by show w.heap.size ≤ w.heap.size; omega) (.int .i64 0)
    replace S := S.put 0 rfl 4 (.int .i64 0)
    replace c := c.setCell (p := ⟨w.heap.size, 4, none⟩) (by show w.heap.size ≤ w.heap.size; omega) (.int .i64 0)
    replace S := S.put 0 rfl 5 (.int .i64 0)
    replace c := c.setCell (p := ⟨w.heap.size, 5, none⟩) (by show w.heap.size ≤ w.heap.size; omega) (.int .i64 0)
    replace S := S.put 0 rfl 6 (.int .i64 0)
    replace c := c.setCell (p := ⟨w.heap.size, 6, none⟩) (by show w.heap.size ≤ w.heap.size; omega) (.int .i64 0)
    have r0 := Lib.hid (show (((((((w1.setCell ⟨w.heap.size, 0, none⟩ (.int .i64 0)).setCell ⟨w.heap.size, 1, none⟩ (.int .i64 0)).setCell ⟨w.heap.size, 2, none⟩ (.int .i64 0)).setCell ⟨w.heap.size, 3, none⟩ (.int .i64 0)).setCell ⟨w.heap.size, 4, none⟩ (.int .i64 0)).setCell ⟨w.heap.size, 5, none⟩ (.int .i64 0)).setCell ⟨w.heap.size, 6, none⟩ (.int .i64 0)).cell? ⟨w.heap.size, 0, none⟩ = some (.int .i64 0) from (S.at_ 0 rfl).cell 0)
    have r1 := Lib.hid (show (((((((w1.setCell ⟨w.heap.size, 0, none⟩ (.int .i64 0)).setCell ⟨w.heap.size, 1, none⟩ (.int .i64 0)).setCell ⟨w.heap.size, 2, none⟩ (.int .i64 0)).setCell ⟨w.heap.size, 3, none⟩ (.int .i64 0)).setCell ⟨w.heap.size, 4, none⟩ (.int .i64 0)).setCell ⟨w.heap.size, 5, none⟩ (.int .i64 0)).setCell ⟨w.heap.size, 6, none⟩ (.int .i64 0)).cell? ⟨w.heap.size, 1, none⟩ = some (.int .i64 0) from (S.at_ 0 rfl).cell 1)
    have r2 := Lib.hid (show (((((((w1.setCell ⟨w.heap.size, 0, none⟩ (.int .i64 0)).setCell ⟨w.heap.size, 1, none⟩ (.int .i64 0)).setCell ⟨w.heap.size, 2, none⟩ (.int .i64 0)).setCell ⟨w.heap.size, 3, none⟩ (.int .i64 0)).setCell ⟨w.heap.size, 4, none⟩ (.int .i64 0)).setCell ⟨w.heap.size, 5, none⟩ (.int .i64 0)).setCell ⟨w.heap.size, 6, none⟩ (.int .i64 0)).cell? ⟨w.heap.size, 2, none⟩ = some (.int .i64 0) from (S.at_ 0 rfl).cell 2)
    have r3 := Lib.hid (show (((((((w1.setCell ⟨w.heap.size, 0, none⟩ (.int .i64 0)).setCell ⟨w.heap.size, 1, none⟩ (.int .i64 0)).setCell ⟨w.heap.size, 2, none⟩ (.int .i64 0)).setCell ⟨w.heap.size, 3, none⟩ (.int .i64 0)).setCell ⟨w.heap.size, 4, none⟩ (.int .i64 0)).setCell ⟨w.heap.size, 5, none⟩ (.int .i64 0)).setCell ⟨w.heap.size, 6, none⟩ (.int .i64 0)).cell? ⟨w.heap.size, 3, none⟩ = some (.int .i64 0) from (S.at_ 0 rfl).cell 3)
    have r4 := Lib.hid (show (((((((w1.setCell ⟨w.heap.size, 0, none⟩ (.int .i64 0)).setCell ⟨w.heap.size, 1, none⟩ (.int .i64 0)).setCell ⟨w.heap.size, 2, none⟩ (.int .i64 0)).setCell ⟨w.heap.size, 3, none⟩ (.int .i64 0)).setCell ⟨w.heap.size, 4, none⟩ (.int .i64 0)).setCell ⟨w.heap.size, 5, none⟩ (.int .i64 0)).setCell ⟨w.heap.size, 6, none⟩ (.int .i64 0)).cell? ⟨w.heap.size, 4, none⟩ = some (.int .i64 0) from (S.at_ 0 rfl).cell 4)
    have r5 := Lib.hid (show (((((((w1.setCell ⟨w.heap.size, 0, none⟩ (.int .i64 0)).setCell ⟨w.heap.size, 1, none⟩ (.int .i64 0)).setCell ⟨w.heap.size, 2, none⟩ (.int .i64 0)).setCell ⟨w.heap.size, 3, none⟩ (.int .i64 0)).setCell ⟨w.heap.size, 4, none⟩ (.int .i64 0)).setCell ⟨w.heap.size, 5, none⟩ (.int .i64 0)).setCell ⟨w.heap.size, 6, none⟩ (.int .i64 0)).cell? ⟨w.heap.size, 5, none⟩ = some (.int .i64 0) from (S.at_ 0 rfl).cell 5)
    have r6 := Lib.hid (show (((((((w1.setCell ⟨w.heap.size, 0, none⟩ (.int .i64 0)).setCell ⟨w.heap.size, 1, none⟩ (.int .i64 0)).setCell ⟨w.heap.size, 2, none⟩ (.int .i64 0)).setCell ⟨w.heap.size, 3, none⟩ (.int .i64 0)).setCell ⟨w.heap.size, 4, none⟩ (.int .i64 0)).setCell ⟨w.heap.size, 5, none⟩ (.int .i64 0)).setCell ⟨w.heap.size, 6, none⟩ (.int .i64 0)).cell? ⟨w.heap.size, 6, none⟩ = some (.int .i64 0) from (S.at_ 0 rfl).cell 6)
    have CC := Lib.hid c
    clear S c
    go_wp2
    exact bodyPost_ret (v := .tuple #[.agg #[.int .i64 0, .int .i64 0, .int .i64 0, .int .i64 0, .int .i64 0, .int .i64 0, .int .i64 0], .bool false]) (by simp [results, Try.results9, go_sem, r0.out, r1.out, r2.out, r3.out, r4.out, r5.out, r6.out]) rfl ⟨by rw [HD.out] <;> rfl, CC.out⟩
  case pos =>
    have hn9 := hK.1
    subst hn9
    have hd0 := hK.2
    obtain ⟨b, off, rfl, hb, hc⟩ := hi.2 (by omega)
    obtain ⟨x0, hx0⟩ : ∃ x, x = d0.getD 1 0 := ⟨_, rfl⟩
    obtain ⟨x1, hx1⟩ : ∃ x, x = d0.getD 2 0 := ⟨_, rfl⟩
    obtain ⟨x2, hx2⟩ : ∃ x, x = d0.getD 3 0 := ⟨_, rfl⟩
    obtain ⟨x3, hx3⟩ : ∃ x, x = d0.getD 4 0 := ⟨_, rfl⟩
    obtain ⟨x4, hx4⟩ : ∃ x, x = d0.getD 5 0 := ⟨_, rfl⟩
    obtain ⟨x5, hx5⟩ : ∃ x, x = d0.getD 6 0 := ⟨_, rfl⟩
    obtain ⟨x6, hx6⟩ : ∃ x, x = d0.getD 7 0 := ⟨_, rfl⟩
    have k0 := hc 1 (by omega)
    rw [← hx0] at k0
    have k1 := hc 2 (by omega)
    rw [← hx1] at k1
    have HO := Lib.hid (show ofAsk d0 = ⟨x0, x1, x2, x3, x4, x5, x6⟩ by unfold ofAsk; rw [hx0, hx1, hx2, hx3, hx4, hx5, hx6])
    have HK := Lib.hid hd0
    have KK := Lib.hid (sIs_any (some ⟨b, off, none⟩) 8 cc w.heap.size d0 1 8 _ (HI.out.below c) (by decide))
    rw [decide_eq_true hd0, show decide (((8 : Nat) : Int) = 8) = true from rfl, Bool.and_true] at KK
    have HP := Lib.hid (show rowOpM (d0.drop 3) = if opB ⟨x2, x3, x4, x5, x6⟩ = true then (⟨x2, x3, x4, x5, x6⟩, true) else (⟨0, 0, 0, 0, 0⟩, false) by
      unfold rowOpM
      rw [if_pos (by rw [List.length_drop, HL.out])]
      have e : ofOp (d0.drop 3) = ⟨x2, x3, x4, x5, x6⟩ := by rw [hx2, hx3, hx4, hx5, hx6]; simp [ofOp, List.getD]
      rw [e]
      rfl)
    have HDR := Lib.hid (hi.dropS (m := 3) (by omega))
    have hc1 : ¬ (cc = 3) := by omega
    have hc4 : (3 : Int) ≤ 8 := by decide
    clear hc hi hd0 hK hn hnc hcm hx0 hx1 hx2 hx3 hx4 hx5 hx6
    go_enter Try.func9, Try.ntmps9
    go_wp2_with fail
    generalize w.alloc (.cells #[.int .i64 0, .int .i64 0, .int .i64 0, .int .i64 0, .int .i64 0, .int .i64 0, .int .i64 0] 26) = w1 at *
    refine KK.out.mono ?_
    rintro e w9 ⟨rfl, rfl⟩
    clear KK
    go_wp2_with fail
    refine (sRowOp_any (some ⟨b, off + 3, none⟩) 5 (cc - 3) w.heap.size (d0.drop 3) _ (HDR.out.below c) c.size (by decide)).mono ?_
    rintro e w2 ⟨rfl, b2⟩
    replace c := c.trans (b2.mono c.size)
    replace S := S.keep b2
    clear b2
    rw [HP.out]
    cases hob : opB ⟨x2, x3, x4, x5, x6⟩
    case false =>
      have HD := Lib.hid (show rowAskM d0 = (ask0, false) by unfold rowAskM; rw [if_neg (fun h9 => by have h8 := askOk_op h9.2.2; rw [HO.out, show (AskM.op ⟨x0, x1, x2, x3, x4, x5, x6⟩) = ⟨x2, x3, x4, x5, x6⟩ from rfl, hob] at h8; cases h8)])
      rw [if_neg (by decide)]
      clear hob
      replace S := S.boxAt c.size (w2.heap.size) rfl #[.int .i64 0, .int .i64 0, .int .i64 0, .int .i64 0, .int .i64 0] 24
      replace c := c.alloc c.size (.cells #[.int .i64 0, .int .i64 0, .int .i64 0, .int .i64 0, .int .i64 0] 24)
      go_wp2_with fail
      generalize w2.alloc (.cells #[.int .i64 0, .int .i64 0, .int .i64 0, .int .i64 0, .int .i64 0] 24) = w3 at *
      obtain ⟨qo, hqo⟩ : ∃ q, q = w2.heap.size := ⟨_, rfl⟩
      rw [← hqo] at S ⊢
      clear hqo
      refine wp_region_L (fun v => v.cell? ⟨qo, 0, none⟩ = some (.int .i64 0) ∧ v.cell? ⟨qo, 1, none⟩ = some (.int .i64 0) ∧ v.cell? ⟨qo, 2, none⟩ = some (.int .i64 0) ∧ v.cell? ⟨qo, 3, none⟩ = some (.int .i64 0) ∧ v.cell? ⟨qo, 4, none⟩ = some (.int .i64 0) ∧ v.cell? ⟨b, off + 1, none⟩ = some (.int .i64 x0) ∧ v.cell? ⟨b, off + 2, none⟩ = some (.int .i64 x1)) 9 (by kernel_rfl) ?_
      replace S := S.keep ((Below.refl _ _).drew)
      replace c := c.drew
      generalize w3.drew = w4 at *
      have HF : w4.cell? ⟨qo, 0, none⟩ = some (.int .i64 0) ∧ w4.cell? ⟨qo, 1, none⟩ = some (.int .i64 0) ∧ w4.cell? ⟨qo, 2, none⟩ = some (.int .i64 0) ∧ w4.cell? ⟨qo, 3, none⟩ = some (.int .i64 0) ∧ w4.cell? ⟨qo, 4, none⟩ = some (.int .i64 0) ∧ w4.cell? ⟨b, off + 1, none⟩ = some (.int .i64 x0) ∧ w4.cell? ⟨b, off + 2, none⟩ = some (.int .i64 x1) := ⟨(S.at_ 0 rfl).cell 0, (S.at_ 0 rfl).cell 1, (S.at_ 0 rfl).cell 2, (S.at_ 0 rfl).cell 3, (S.at_ 0 rfl).cell 4, (c.cell (p := ⟨b, off + 1, none⟩) (show b < _ by omega)).trans k0, (c.cell (p := ⟨b, off + 2, none⟩) (show b < _ by omega)).trans k1⟩
      refine wpAnyL_take (i := 0) (v := ?_) rfl rfl (by kernel_rfl) (by kernel_rfl) (by kernel_rfl) (by kernel_rfl) (by kernel_rfl) (fun _ _ _ h => h) HF (Or.inl ⟨by rfl, ?_⟩) ?_
      rotate_left 1
      · (rintro v ⟨a0, a1, a2, a3, a4, a5, a6⟩; go_simp; try with_reducible rfl)
      try simp only [Act.put]
      refine wpAnyL_take (i := 1) (v := ?_) rfl rfl (by kernel_rfl) (by kernel_rfl) (by kernel_rfl) (by kernel_rfl) (by kernel_rfl) (fun _ _ _ h => h) HF (Or.inl ⟨by rfl, ?_⟩) ?_
      rotate_left 1
      · (rintro v ⟨a0, a1, a2, a3, a4, a5, a6⟩; go_simp; try with_reducible rfl)
      try simp only [Act.put]
      refine wpAnyL_take (i := 2) (v := ?_) rfl rfl (by kernel_rfl) (by kernel_rfl) (by kernel_rfl) (by kernel_rfl) (by kernel_rfl) (fun _ _ _ h => h) HF (Or.inl ⟨by rfl, ?_⟩) ?_
      rotate_left 1
      · (rintro v ⟨a0, a1, a2, a3, a4, a5, a6⟩; go_simp; try with_reducible rfl)
      try simp only [Act.put]
      refine wpAnyL_take (i := 3) (v := ?_) rfl rfl (by kernel_rfl) (by kernel_rfl) (by kernel_rfl) (by kernel_rfl) (by kernel_rfl) (fun _ _ _ h => h) HF (Or.inl ⟨by rfl, ?_⟩) ?_
      rotate_left 1
      · (rintro v ⟨a0, a1, a2, a3, a4, a5, a6⟩; go_simp; try with_reducible rfl)
      try simp only [Act.put]
      refine wpAnyL_take (i := 4) (v := ?_) rfl rfl (by kernel_rfl) (by kernel_rfl) (by kernel_rfl) (by kernel_rfl) (by kernel_rfl) (fun _ _ _ h => h) HF (Or.inl ⟨by rfl, ?_⟩) ?_
      rotate_left 1
      · (rintro v ⟨a0, a1, a2, a3, a4, a5, a6⟩; go_simp; try with_reducible rfl)
      try simp only [Act.put]
      refine wpAnyL_take (i := 5) (v := ?_) rfl rfl (by kernel_rfl) (by kernel_rfl) (by kernel_rfl) (by kernel_rfl) (by kernel_rfl) (fun _ _ _ h => h) HF (Or.inl ⟨by rfl, ?_⟩) ?_
      rotate_left 1
      · (rintro v ⟨a0, a1, a2, a3, a4, a5, a6⟩; go_simp; try with_reducible rfl)
      try simp only [Act.put]
      refine wpAnyL_take (i := 6) (v := ?_) rfl rfl (by kernel_rfl) (by kernel_rfl) (by kernel_rfl) (by kernel_rfl) (by kernel_rfl) (fun _ _ _ h => h) HF (Or.inl ⟨by rfl, ?_⟩) ?_
      rotate_left 1
      · (rintro v ⟨a0, a1, a2, a3, a4, a5, a6⟩; go_simp; try with_reducible rfl)
      try simp only [Act.put]
      refine wpAnyL_take (i := 7) (v := ?_) rfl rfl (by kernel_rfl) (by kernel_rfl) (by kernel_rfl) (by kernel_rfl) (by kernel_rfl) (fun _ _ _ h => h) HF (Or.inl ⟨by rfl, ?_⟩) ?_
      rotate_left 1
      · (rintro v ⟨a0, a1, a2, a3, a4, a5, a6⟩; go_simp; try with_reducible rfl)
      try simp only [Act.put]
      refine wpAnyL_step (i := 8) (by kernel_rfl) rfl rfl ?_
      intro K hK
      go_simp
      replace S := S.boxAt c.size (w4.heap.size) rfl #[.int .i64 0, .int .i64 0, .int .i64 0, .int .i64 0, .int .i64 0, .int .i64 0, .int .i64 0] 26
      replace c := c.alloc c.size (.cells #[.int .i64 0, .int .i64 0, .int .i64 0, .int .i64 0, .int .i64 0, .int .i64 0, .int .i64 0] 26)
      clear HF
      have HF : (w4.alloc (.cells #[.int .i64 0, .int .i64 0, .int .i64 0, .int .i64 0, .int .i64 0, .int .i64 0, .int .i64 0] 26)).cell? ⟨qo, 0, none⟩ = some (.int .i64 0) ∧ (w4.alloc (.cells #[.int .i64 0, .int .i64 0, .int .i64 0, .int .i64 0, .int .i64 0, .int .i64 0, .int .i64 0] 26)).cell? ⟨qo, 1, none⟩ = some (.int .i64 0) ∧ (w4.alloc (.cells #[.int .i64 0, .int .i64 0, .int .i64 0, .int .i64 0, .int .i64 0, .int .i64 0, .int .i64 0] 26)).cell? ⟨qo, 2, none⟩ = some (.int .i64 0) ∧ (w4.alloc (.cells #[.int .i64 0, .int .i64 0, .int .i64 0, .int .i64 0, .int .i64 0, .int .i64 0, .int .i64 0] 26)).cell? ⟨qo, 3, none⟩ = some (.int .i64 0) ∧ (w4.alloc (.cells #[.int .i64 0, .int .i64 0, .int .i64 0, .int .i64 0, .int .i64 0, .int .i64 0, .int .i64 0] 26)).cell? ⟨qo, 4, none⟩ = some (.int .i64 0) ∧ (w4.alloc (.cells #[.int .i64 0, .int .i64 0, .int .i64 0, .int .i64 0, .int .i64 0, .int .i64 0, .int .i64 0] 26)).cell? ⟨b, off + 1, none⟩ = some (.int .i64 x0) ∧ (w4.alloc (.cells #[.int .i64 0, .int .i64 0, .int .i64 0, .int .i64 0, .int .i64 0, .int .i64 0, .int .i64 0] 26)).cell? ⟨b, off + 2, none⟩ = some (.int .i64 x1) := ⟨(S.at_ 1 rfl).cell 0, (S.at_ 1 rfl).cell 1, (S.at_ 1 rfl).cell 2, (S.at_ 1 rfl).cell 3, (S.at_ 1 rfl).cell 4, (c.cell (p := ⟨b, off + 1, none⟩) (show b < _ by omega)).trans k0, (c.cell (p := ⟨b, off + 2, none⟩) (show b < _ by omega)).trans k1⟩
      refine hK _ _ (fun _ => HF) ?_
      clear hK K
      try simp only [Act.put]
      generalize hw : w4.alloc (.cells #[.int .i64 0, .int .i64 0, .int .i64 0, .int .i64 0, .int .i64 0, .int .i64 0, .int .i64 0] 26) = w5 at *
      clear hw
      obtain ⟨qe, hqe⟩ : ∃ q, q = w4.heap.size := ⟨_, rfl⟩
      rw [← hqe] at S ⊢
      clear hqe
      refine wpAnyL_step (i := 9) (by kernel_rfl) rfl rfl ?_
      intro K hK
      refine wp_store_row _ _ _ rfl qe #[.int .i64 x0, .int .i64 x1, .int .i64 0, .int .i64 0, .int .i64 0, .int .i64 0, .int .i64 0] (by rfl) (by rfl) 26 #[.int .i64 0, .int .i64 0, .int .i64 0, .int .i64 0, .int .i64 0, .int .i64 0, .int .i64 0] (S.at_ 0 rfl) (show _ = some 7 by kernel_rfl) rfl (all_oneCell_toArray (cs := [.int .i64 x0, .int .i64 x1, .int .i64 0, .int .i64 0, .int .i64 0, .int .i64 0, .int .i64 0]) (by intro u hu; simp at hu; cases u <;> simp_all [Value.oneCell'])) ?_
      refine hK _ _ (fun h => nomatch (show true = false from h)) ?_
      clear hK K
      try simp only [Act.put]
      refine wpAnyL_done (by kernel_rfl) ?_ _
      replace c := c.trans ((touch_setRow w5 qe #[.int .i64 x0, .int .i64 x1, .int .i64 0, .int .i64 0, .int .i64 0, .int .i64 0, .int .i64 0]).below (fun q hq => by rw [List.mem_singleton.1 hq]; exact S.base_le 0 rfl) c.size)
      replace S := S.row 0 rfl #[.int .i64 x0, .int .i64 x1, .int .i64 0, .int .i64 0, .int .i64 0, .int .i64 0, .int .i64 0]
      generalize w5.setRow qe #[.int .i64 x0, .int .i64 x1, .int .i64 0, .int .i64 0, .int .i64 0, .int .i64 0, .int .i64 0] = w6 at *
      clear HF
      have f0 : w6.cell? ⟨w.heap.size, 0, none⟩ = some (.int .i64 0) := (S.at_ 2 rfl).cell 0
      have f1 := (S.at_ 2 rfl).free 0
      have f2 : w6.cell? ⟨w.heap.size, 1, none⟩ = some (.int .i64 0) := (S.at_ 2 rfl).cell 1
      have f3 := (S.at_ 2 rfl).free 1
      have f4 : w6.cell? ⟨w.heap.size, 2, none⟩ = some (.int .i64 0) := (S.at_ 2 rfl).cell 2
      have f5 := (S.at_ 2 rfl).free 2
      have f6 : w6.cell? ⟨w.heap.size, 3, none⟩ = some (.int .i64 0) := (S.at_ 2 rfl).cell 3
      have f7 := (S.at_ 2 rfl).free 3
      have f8 : w6.cell? ⟨w.heap.size, 4, none⟩ = some (.int .i64 0) := (S.at_ 2 rfl).cell 4
      have f9 := (S.at_ 2 rfl).free 4
      have f10 : w6.cell? ⟨w.heap.size, 5, none⟩ = some (.int .i64 0) := (S.at_ 2 rfl).cell 5
      have f11 := (S.at_ 2 rfl).free 5
      have f12 : w6.cell? ⟨w.heap.size, 6, none⟩ = some (.int .i64 0) := (S.at_ 2 rfl).cell 6
      have f13 := (S.at_ 2 rfl).free 6
      replace S := S.put 2 rfl 0 (.int .i64 0)
      replace c := c.setCell (p := ⟨w.heap.size, 0, none⟩) (by show w.heap.size ≤ w.heap.size; omega) (.int .i64 0)
      replace S := S.put 2 rfl 1 (.int .i64 0)
      replace c := c.setCell (p := ⟨w.heap.size, 1, none⟩) (by show w.heap.size ≤ w.heap.size; omega) (.int .i64 0)
      replace S := S.put 2 rfl 2 (.int .i64 0)
      replace c := c.setCell (p := ⟨w.heap.size, 2, none⟩) (by show w.heap.size ≤ w.heap.size; omega) (.int .i64 0)
      replace S := S.put 2 rfl 3 (.int .i64 0)
      replace c := c.setCell (p := ⟨w.heap.size, 3, none⟩) (by show w.heap.size ≤ w.heap.size; omega) (.int .i64 0)
      replace S := S.put 2 rfl 4 (.int .i64 0)
      replace c := c.setCell (p := ⟨w.heap.size, 4, none⟩) (by show w.heap.size ≤ w.heap.size; omega) (.int .i64 0)
      replace S := S.put 2 rfl 5 (.int .i64 0)
      replace c := c.setCell (p := ⟨w.heap.size, 5, none⟩) (by show w.heap.size ≤ w.heap.size; omega) (.int .i64 0)
      replace S := S.put 2 rfl 6 (.int .i64 0)
      replace c := c.setCell (p := ⟨w.heap.size, 6, none⟩) (by show w.heap.size ≤ w.heap.size; omega) (.int .i64 0)
      have r0 := Lib.hid (show (((((((w6.setCell ⟨w.heap.size, 0, none⟩ (.int .i64 0)).setCell ⟨w.heap.size, 1, none⟩ (.int .i64 0)).setCell ⟨w.heap.size, 2, none⟩ (.int .i64 0)).setCell ⟨w.heap.size, 3, none⟩ (.int .i64 0)).setCell ⟨w.heap.size, 4, none⟩ (.int .i64 0)).setCell ⟨w.heap.size, 5, none⟩ (.int .i64 0)).setCell ⟨w.heap.size, 6, none⟩ (.int .i64 0)).cell? ⟨w.heap.size, 0, none⟩ = some (.int .i64 0) from (S.at_ 2 rfl).cell 0)
      have r1 := Lib.hid (show (((((((w6.setCell ⟨w.heap.size, 0, none⟩ (.int .i64 0)).setCell ⟨w.heap.size, 1, none⟩ (.int .i64 0)).setCell ⟨w.heap.size, 2, none⟩ (.int .i64 0)).setCell ⟨w.heap.size, 3, none⟩ (.int .i64 0)).setCell ⟨w.heap.size, 4, none⟩ (.int .i64 0)).setCell ⟨w.heap.size, 5, none⟩ (.int .i64 0)).setCell ⟨w.heap.size, 6, none⟩ (.int .i64 0)).cell? ⟨w.heap.size, 1, none⟩ = some (.int .i64 0) from (S.at_ 2 rfl).cell 1)
      have r2 := Lib.hid (show (((((((w6.setCell ⟨w.heap.size, 0, none⟩ (.int .i64 0)).setCell ⟨w.heap.size, 1, none⟩ (.int .i64 0)).setCell ⟨w.heap.size, 2, none⟩ (.int .i64 0)).setCell ⟨w.heap.size, 3, none⟩ (.int .i64 0)).setCell ⟨w.heap.size, 4, none⟩ (.int .i64 0)).setCell ⟨w.heap.size, 5, none⟩ (.int .i64 0)).setCell ⟨w.heap.size, 6, none⟩ (.int .i64 0)).cell? ⟨w.heap.size, 2, none⟩ = some (.int .i64 0) from (S.at_ 2 rfl).cell 2)
      have r3 := Lib.hid (show (((((((w6.setCell ⟨w.heap.size, 0, none⟩ (.int .i64 0)).setCell ⟨w.heap.size, 1, none⟩ (.int .i64 0)).setCell ⟨w.heap.size, 2, none⟩ (.int .i64 0)).setCell ⟨w.heap.size, 3, none⟩ (.int .i64 0)).setCell ⟨w.heap.size, 4, none⟩ (.int .i64 0)).setCell ⟨w.heap.size, 5, none⟩ (.int .i64 0)).setCell ⟨w.heap.size, 6, none⟩ (.int .i64 0)).cell? ⟨w.heap.size, 3, none⟩ = some (.int .i64 0) from (S.at_ 2 rfl).cell 3)
      have r4 := Lib.hid (show (((((((w6.setCell ⟨w.heap.size, 0, none⟩ (.int .i64 0)).setCell ⟨w.heap.size, 1, none⟩ (.int .i64 0)).setCell ⟨w.heap.size, 2, none⟩ (.int .i64 0)).setCell ⟨w.heap.size, 3, none⟩ (.int .i64 0)).setCell ⟨w.heap.size, 4, none⟩ (.int .i64 0)).setCell ⟨w.heap.size, 5, none⟩ (.int .i64 0)).setCell ⟨w.heap.size, 6, none⟩ (.int .i64 0)).cell? ⟨w.heap.size, 4, none⟩ = some (.int .i64 0) from (S.at_ 2 rfl).cell 4)
      have r5 := Lib.hid (show (((((((w6.setCell ⟨w.heap.size, 0, none⟩ (.int .i64 0)).setCell ⟨w.heap.size, 1, none⟩ (.int .i64 0)).setCell ⟨w.heap.size, 2, none⟩ (.int .i64 0)).setCell ⟨w.heap.size, 3, none⟩ (.int .i64 0)).setCell ⟨w.heap.size, 4, none⟩ (.int .i64 0)).setCell ⟨w.heap.size, 5, none⟩ (.int .i64 0)).setCell ⟨w.heap.size, 6, none⟩ (.int .i64 0)).cell? ⟨w.heap.size, 5, none⟩ = some (.int .i64 0) from (S.at_ 2 rfl).cell 5)
      have r6 := Lib.hid (show (((((((w6.setCell ⟨w.heap.size, 0, none⟩ (.int .i64 0)).setCell ⟨w.heap.size, 1, none⟩ (.int .i64 0)).setCell ⟨w.heap.size, 2, none⟩ (.int .i64 0)).setCell ⟨w.heap.size, 3, none⟩ (.int .i64 0)).setCell ⟨w.heap.size, 4, none⟩ (.int .i64 0)).setCell ⟨w.heap.size, 5, none⟩ (.int .i64 0)).setCell ⟨w.heap.size, 6, none⟩ (.int .i64 0)).cell? ⟨w.heap.size, 6, none⟩ = some (.int .i64 0) from (S.at_ 2 rfl).cell 6)
      have CC := Lib.hid c
      clear S c
      go_wp2
      exact bodyPost_ret (v := .tuple #[.agg #[.int .i64 0, .int .i64 0, .int .i64 0, .int .i64 0, .int .i64 0, .int .i64 0, .int .i64 0], .bool false]) (by simp [results, Try.results9, go_sem, r0.out, r1.out, r2.out, r3.out, r4.out, r5.out, r6.out]) rfl ⟨by rw [HD.out] <;> rfl, CC.out⟩
    case true =>
      have HOB := Lib.hid hob
      clear hob
      rw [if_pos rfl]
      replace S := S.boxAt c.size (w2.heap.size) rfl #[.int .i64 x2, .int .i64 x3, .int .i64 x4, .int .i64 x5, .int .i64 x6] 24
      replace c := c.alloc c.size (.cells #[.int .i64 x2, .int .i64 x3, .int .i64 x4, .int .i64 x5, .int .i64 x6] 24)
      go_wp2_with fail
      generalize w2.alloc (.cells #[.int .i64 x2, .int .i64 x3, .int .i64 x4, .int .i64 x5, .int .i64 x6] 24) = w3 at *
      obtain ⟨qo, hqo⟩ : ∃ q, q = w2.heap.size := ⟨_, rfl⟩
      rw [← hqo] at S ⊢
      clear hqo
      refine wp_region_L (fun v => v.cell? ⟨qo, 0, none⟩ = some (.int .i64 x2) ∧ v.cell? ⟨qo, 1, none⟩ = some (.int .i64 x3) ∧ v.cell? ⟨qo, 2, none⟩ = some (.int .i64 x4) ∧ v.cell? ⟨qo, 3, none⟩ = some (.int .i64 x5) ∧ v.cell? ⟨qo, 4, none⟩ = some (.int .i64 x6) ∧ v.cell? ⟨b, off + 1, none⟩ = some (.int .i64 x0) ∧ v.cell? ⟨b, off + 2, none⟩ = some (.int .i64 x1)) 9 (by kernel_rfl) ?_
      replace S := S.keep ((Below.refl _ _).drew)
      replace c := c.drew
      generalize w3.drew = w4 at *
      have HF : w4.cell? ⟨qo, 0, none⟩ = some (.int .i64 x2) ∧ w4.cell? ⟨qo, 1, none⟩ = some (.int .i64 x3) ∧ w4.cell? ⟨qo, 2, none⟩ = some (.int .i64 x4) ∧ w4.cell? ⟨qo, 3, none⟩ = some (.int .i64 x5) ∧ w4.cell? ⟨qo, 4, none⟩ = some (.int .i64 x6) ∧ w4.cell? ⟨b, off + 1, none⟩ = some (.int .i64 x0) ∧ w4.cell? ⟨b, off + 2, none⟩ = some (.int .i64 x1) := ⟨(S.at_ 0 rfl).cell 0, (S.at_ 0 rfl).cell 1, (S.at_ 0 rfl).cell 2, (S.at_ 0 rfl).cell 3, (S.at_ 0 rfl).cell 4, (c.cell (p := ⟨b, off + 1, none⟩) (show b < _ by omega)).trans k0, (c.cell (p := ⟨b, off + 2, none⟩) (show b < _ by omega)).trans k1⟩
      refine wpAnyL_take (i := 0) (v := ?_) rfl rfl (by kernel_rfl) (by kernel_rfl) (by kernel_rfl) (by kernel_rfl) (by kernel_rfl) (fun _ _ _ h => h) HF (Or.inl ⟨by rfl, ?_⟩) ?_
      rotate_left 1
      · (rintro v ⟨a0, a1, a2, a3, a4, a5, a6⟩; go_simp; try with_reducible rfl)
      try simp only [Act.put]
      refine wpAnyL_take (i := 1) (v := ?_) rfl rfl (by kernel_rfl) (by kernel_rfl) (by kernel_rfl) (by kernel_rfl) (by kernel_rfl) (fun _ _ _ h => h) HF (Or.inl ⟨by rfl, ?_⟩) ?_
      rotate_left 1
      · (rintro v ⟨a0, a1, a2, a3, a4, a5, a6⟩; go_simp; try with_reducible rfl)
      try simp only [Act.put]
      refine wpAnyL_take (i := 2) (v := ?_) rfl rfl (by kernel_rfl) (by kernel_rfl) (by kernel_rfl) (by kernel_rfl) (by kernel_rfl) (fun _ _ _ h => h) HF (Or.inl ⟨by rfl, ?_⟩) ?_
      rotate_left 1
      · (rintro v ⟨a0, a1, a2, a3, a4, a5, a6⟩; go_simp; try with_reducible rfl)
      try simp only [Act.put]
      refine wpAnyL_take (i := 3) (v := ?_) rfl rfl (by kernel_rfl) (by kernel_rfl) (by kernel_rfl) (by kernel_rfl) (by kernel_rfl) (fun _ _ _ h => h) HF (Or.inl ⟨by rfl, ?_⟩) ?_
      rotate_left 1
      · (rintro v ⟨a0, a1, a2, a3, a4, a5, a6⟩; go_simp; try with_reducible rfl)
      try simp only [Act.put]
      refine wpAnyL_take (i := 4) (v := ?_) rfl rfl (by kernel_rfl) (by kernel_rfl) (by kernel_rfl) (by kernel_rfl) (by kernel_rfl) (fun _ _ _ h => h) HF (Or.inl ⟨by rfl, ?_⟩) ?_
      rotate_left 1
      · (rintro v ⟨a0, a1, a2, a3, a4, a5, a6⟩; go_simp; try with_reducible rfl)
      try simp only [Act.put]
      refine wpAnyL_take (i := 5) (v := ?_) rfl rfl (by kernel_rfl) (by kernel_rfl) (by kernel_rfl) (by kernel_rfl) (by kernel_rfl) (fun _ _ _ h => h) HF (Or.inl ⟨by rfl, ?_⟩) ?_
      rotate_left 1
      · (rintro v ⟨a0, a1, a2, a3, a4, a5, a6⟩; go_simp; try with_reducible rfl)
      try simp only [Act.put]
      refine wpAnyL_take (i := 6) (v := ?_) rfl rfl (by kernel_rfl) (by kernel_rfl) (by kernel_rfl) (by kernel_rfl) (by kernel_rfl) (fun _ _ _ h => h) HF (Or.inl ⟨by rfl, ?_⟩) ?_
      rotate_left 1
      · (rintro v ⟨a0, a1, a2, a3, a4, a5, a6⟩; go_simp; try with_reducible rfl)
      try simp only [Act.put]
      refine wpAnyL_take (i := 7) (v := ?_) rfl rfl (by kernel_rfl) (by kernel_rfl) (by kernel_rfl) (by kernel_rfl) (by kernel_rfl) (fun _ _ _ h => h) HF (Or.inl ⟨by rfl, ?_⟩) ?_
      rotate_left 1
      · (rintro v ⟨a0, a1, a2, a3, a4, a5, a6⟩; go_simp; try with_reducible rfl)
      try simp only [Act.put]
      refine wpAnyL_step (i := 8) (by kernel_rfl) rfl rfl ?_
      intro K hK
      go_simp
      replace S := S.boxAt c.size (w4.heap.size) rfl #[.int .i64 0, .int .i64 0, .int .i64 0, .int .i64 0, .int .i64 0, .int .i64 0, .int .i64 0] 26
      replace c := c.alloc c.size (.cells #[.int .i64 0, .int .i64 0, .int .i64 0, .int .i64 0, .int .i64 0, .int .i64 0, .int .i64 0] 26)
      clear HF
      have HF : (w4.alloc (.cells #[.int .i64 0, .int .i64 0, .int .i64 0, .int .i64 0, .int .i64 0, .int .i64 0, .int .i64 0] 26)).cell? ⟨qo, 0, none⟩ = some (.int .i64 x2) ∧ (w4.alloc (.cells #[.int .i64 0, .int .i64 0, .int .i64 0, .int .i64 0, .int .i64 0, .int .i64 0, .int .i64 0] 26)).cell? ⟨qo, 1, none⟩ = some (.int .i64 x3) ∧ (w4.alloc (.cells #[.int .i64 0, .int .i64 0, .int .i64 0, .int .i64 0, .int .i64 0, .int .i64 0, .int .i64 0] 26)).cell? ⟨qo, 2, none⟩ = some (.int .i64 x4) ∧ (w4.alloc (.cells #[.int .i64 0, .int .i64 0, .int .i64 0, .int .i64 0, .int .i64 0, .int .i64 0, .int .i64 0] 26)).cell? ⟨qo, 3, none⟩ = some (.int .i64 x5) ∧ (w4.alloc (.cells #[.int .i64 0, .int .i64 0, .int .i64 0, .int .i64 0, .int .i64 0, .int .i64 0, .int .i64 0] 26)).cell? ⟨qo, 4, none⟩ = some (.int .i64 x6) ∧ (w4.alloc (.cells #[.int .i64 0, .int .i64 0, .int .i64 0, .int .i64 0, .int .i64 0, .int .i64 0, .int .i64 0] 26)).cell? ⟨b, off + 1, none⟩ = some (.int .i64 x0) ∧ (w4.alloc (.cells #[.int .i64 0, .int .i64 0, .int .i64 0, .int .i64 0, .int .i64 0, .int .i64 0, .int .i64 0] 26)).cell? ⟨b, off + 2, none⟩ = some (.int .i64 x1) := ⟨(S.at_ 1 rfl).cell 0, (S.at_ 1 rfl).cell 1, (S.at_ 1 rfl).cell 2, (S.at_ 1 rfl).cell 3, (S.at_ 1 rfl).cell 4, (c.cell (p := ⟨b, off + 1, none⟩) (show b < _ by omega)).trans k0, (c.cell (p := ⟨b, off + 2, none⟩) (show b < _ by omega)).trans k1⟩
      refine hK _ _ (fun _ => HF) ?_
      clear hK K
      try simp only [Act.put]
      generalize hw : w4.alloc (.cells #[.int .i64 0, .int .i64 0, .int .i64 0, .int .i64 0, .int .i64 0, .int .i64 0, .int .i64 0] 26) = w5 at *
      clear hw
      obtain ⟨qe, hqe⟩ : ∃ q, q = w4.heap.size := ⟨_, rfl⟩
      rw [← hqe] at S ⊢
      clear hqe
      refine wpAnyL_step (i := 9) (by kernel_rfl) rfl rfl ?_
      intro K hK
      refine wp_store_row _ _ _ rfl qe #[.int .i64 x0, .int .i64 x1, .int .i64 x2, .int .i64 x3, .int .i64 x4, .int .i64 x5, .int .i64 x6] (by rfl) (by rfl) 26 #[.int .i64 0, .int .i64 0, .int .i64 0, .int .i64 0, .int .i64 0, .int .i64 0, .int .i64 0] (S.at_ 0 rfl) (show _ = some 7 by kernel_rfl) rfl (all_oneCell_toArray (cs := [.int .i64 x0, .int .i64 x1, .int .i64 x2, .int .i64 x3, .int .i64 x4, .int .i64 x5, .int .i64 x6]) (by intro u hu; simp at hu; cases u <;> simp_all [Value.oneCell'])) ?_
      refine hK _ _ (fun h => nomatch (show true = false from h)) ?_
      clear hK K
      try simp only [Act.put]
      refine wpAnyL_done (by kernel_rfl) ?_ _
      replace c := c.trans ((touch_setRow w5 qe #[.int .i64 x0, .int .i64 x1, .int .i64 x2, .int .i64 x3, .int .i64 x4, .int .i64 x5, .int .i64 x6]).below (fun q hq => by rw [List.mem_singleton.1 hq]; exact S.base_le 0 rfl) c.size)
      replace S := S.row 0 rfl #[.int .i64 x0, .int .i64 x1, .int .i64 x2, .int .i64 x3, .int .i64 x4, .int .i64 x5, .int .i64 x6]
      generalize w5.setRow qe #[.int .i64 x0, .int .i64 x1, .int .i64 x2, .int .i64 x3, .int .i64 x4, .int .i64 x5, .int .i64 x6] = w6 at *
      clear HF
      have f0 : w6.cell? ⟨qe, 0, none⟩ = some (.int .i64 x0) := (S.at_ 0 rfl).cell 0
      have f1 : w6.cell? ⟨qe, 1, none⟩ = some (.int .i64 x1) := (S.at_ 0 rfl).cell 1
      have f2 : w6.cell? ⟨qe, 2, none⟩ = some (.int .i64 x2) := (S.at_ 0 rfl).cell 2
      have f3 : w6.cell? ⟨qe, 3, none⟩ = some (.int .i64 x3) := (S.at_ 0 rfl).cell 3
      have f4 : w6.cell? ⟨qe, 4, none⟩ = some (.int .i64 x4) := (S.at_ 0 rfl).cell 4
      have f5 : w6.cell? ⟨qe, 5, none⟩ = some (.int .i64 x5) := (S.at_ 0 rfl).cell 5
      have f6 : w6.cell? ⟨qe, 6, none⟩ = some (.int .i64 x6) := (S.at_ 0 rfl).cell 6
      go_wp2_with fail
      refine (sAskOk_any x0 x1 x2 x3 x4 x5 x6 _).mono ?_
      rintro e w7 ⟨rfl, b2⟩
      replace c := c.trans (b2.mono c.size)
      replace S := S.keep b2
      clear b2 f0 f1 f2 f3 f4 f5 f6
      cases hok : askOkB ⟨x0, x1, x2, x3, x4, x5, x6⟩
      case false =>
        have HD := Lib.hid (show rowAskM d0 = (ask0, false) by unfold rowAskM; rw [if_neg (fun h9 => by have h8 := h9.2.2; rw [HO.out, hok] at h8; cases h8)])
        clear hok
        have f7 : w7.cell? ⟨w.heap.size, 0, none⟩ = some (.int .i64 0) := (S.at_ 2 rfl).cell 0
        have f8 := (S.at_ 2 rfl).free 0
        have f9 : w7.cell? ⟨w.heap.size, 1, none⟩ = some (.int .i64 0) := (S.at_ 2 rfl).cell 1
        have f10 := (S.at_ 2 rfl).free 1
        have f11 : w7.cell? ⟨w.heap.size, 2, none⟩ = some (.int .i64 0) := (S.at_ 2 rfl).cell 2
        have f12 := (S.at_ 2 rfl).free 2
        have f13 : w7.cell? ⟨w.heap.size, 3, none⟩ = some (.int .i64 0) := (S.at_ 2 rfl).cell 3
        have f14 := (S.at_ 2 rfl).free 3
        have f15 : w7.cell? ⟨w.heap.size, 4, none⟩ = some (.int .i64 0) := (S.at_ 2 rfl).cell 4
        have f16 := (S.at_ 2 rfl).free 4
        have f17 : w7.cell? ⟨w.heap.size, 5, none⟩ = some (.int .i64 0) := (S.at_ 2 rfl).cell 5
        have f18 := (S.at_ 2 rfl).free 5
        have f19 : w7.cell? ⟨w.heap.size, 6, none⟩ = some (.int .i64 0) := (S.at_ 2 rfl).cell 6
        have f20 := (S.at_ 2 rfl).free 6
        replace S := S.put 2 rfl 0 (.int .i64 0)
        replace c := c.setCell (p := ⟨w.heap.size, 0, none⟩) (by show w.heap.size ≤ w.heap.size; omega) (.int .i64 0)
        replace S := S.put 2 rfl 1 (.int .i64 0)
        replace c := c.setCell (p := ⟨w.heap.size, 1, none⟩) (by show w.heap.size ≤ w.heap.size; omega) (.int .i64 0)
        replace S := S.put 2 rfl 2 (.int .i64 0)
        replace c := c.setCell (p := ⟨w.heap.size, 2, none⟩) (by show w.heap.size ≤ w.heap.size; omega) (.int .i64 0)
        replace S := S.put 2 rfl 3 (.int .i64 0)
        replace c := c.setCell (p := ⟨w.heap.size, 3, none⟩) (by show w.heap.size ≤ w.heap.size; omega) (.int .i64 0)
        replace S := S.put 2 rfl 4 (.int .i64 0)
        replace c := c.setCell (p := ⟨w.heap.size, 4, none⟩) (by show w.heap.size ≤ w.heap.size; omega) (.int .i64 0)
        replace S := S.put 2 rfl 5 (.int .i64 0)
        replace c := c.setCell (p := ⟨w.heap.size, 5, none⟩) (by show w.heap.size ≤ w.heap.size; omega) (.int .i64 0)
        replace S := S.put 2 rfl 6 (.int .i64 0)
        replace c := c.setCell (p := ⟨w.heap.size, 6, none⟩) (by show w.heap.size ≤ w.heap.size; omega) (.int .i64 0)
        have r0 := Lib.hid (show (((((((w7.setCell ⟨w.heap.size, 0, none⟩ (.int .i64 0)).setCell ⟨w.heap.size, 1, none⟩ (.int .i64 0)).setCell ⟨w.heap.size, 2, none⟩ (.int .i64 0)).setCell ⟨w.heap.size, 3, none⟩ (.int .i64 0)).setCell ⟨w.heap.size, 4, none⟩ (.int .i64 0)).setCell ⟨w.heap.size, 5, none⟩ (.int .i64 0)).setCell ⟨w.heap.size, 6, none⟩ (.int .i64 0)).cell? ⟨w.heap.size, 0, none⟩ = some (.int .i64 0) from (S.at_ 2 rfl).cell 0)
        have r1 := Lib.hid (show (((((((w7.setCell ⟨w.heap.size, 0, none⟩ (.int .i64 0)).setCell ⟨w.heap.size, 1, none⟩ (.int .i64 0)).setCell ⟨w.heap.size, 2, none⟩ (.int .i64 0)).setCell ⟨w.heap.size, 3, none⟩ (.int .i64 0)).setCell ⟨w.heap.size, 4, none⟩ (.int .i64 0)).setCell ⟨w.heap.size, 5, none⟩ (.int .i64 0)).setCell ⟨w.heap.size, 6, none⟩ (.int .i64 0)).cell? ⟨w.heap.size, 1, none⟩ = some (.int .i64 0) from (S.at_ 2 rfl).cell 1)
        have r2 := Lib.hid (show (((((((w7.setCell ⟨w.heap.size, 0, none⟩ (.int .i64 0)).setCell ⟨w.heap.size, 1, none⟩ (.int .i64 0)).setCell ⟨w.heap.size, 2, none⟩ (.int .i64 0)).setCell ⟨w.heap.size, 3, none⟩ (.int .i64 0)).setCell ⟨w.heap.size, 4, none⟩ (.int .i64 0)).setCell ⟨w.heap.size, 5, none⟩ (.int .i64 0)).setCell ⟨w.heap.size, 6, none⟩ (.int .i64 0)).cell? ⟨w.heap.size, 2, none⟩ = some (.int .i64 0) from (S.at_ 2 rfl).cell 2)
        have r3 := Lib.hid (show (((((((w7.setCell ⟨w.heap.size, 0, none⟩ (.int .i64 0)).setCell ⟨w.heap.size, 1, none⟩ (.int .i64 0)).setCell ⟨w.heap.size, 2, none⟩ (.int .i64 0)).setCell ⟨w.heap.size, 3, none⟩ (.int .i64 0)).setCell ⟨w.heap.size, 4, none⟩ (.int .i64 0)).setCell ⟨w.heap.size, 5, none⟩ (.int .i64 0)).setCell ⟨w.heap.size, 6, none⟩ (.int .i64 0)).cell? ⟨w.heap.size, 3, none⟩ = some (.int .i64 0) from (S.at_ 2 rfl).cell 3)
        have r4 := Lib.hid (show (((((((w7.setCell ⟨w.heap.size, 0, none⟩ (.int .i64 0)).setCell ⟨w.heap.size, 1, none⟩ (.int .i64 0)).setCell ⟨w.heap.size, 2, none⟩ (.int .i64 0)).setCell ⟨w.heap.size, 3, none⟩ (.int .i64 0)).setCell ⟨w.heap.size, 4, none⟩ (.int .i64 0)).setCell ⟨w.heap.size, 5, none⟩ (.int .i64 0)).setCell ⟨w.heap.size, 6, none⟩ (.int .i64 0)).cell? ⟨w.heap.size, 4, none⟩ = some (.int .i64 0) from (S.at_ 2 rfl).cell 4)
        have r5 := Lib.hid (show (((((((w7.setCell ⟨w.heap.size, 0, none⟩ (.int .i64 0)).setCell ⟨w.heap.size, 1, none⟩ (.int .i64 0)).setCell ⟨w.heap.size, 2, none⟩ (.int .i64 0)).setCell ⟨w.heap.size, 3, none⟩ (.int .i64 0)).setCell ⟨w.heap.size, 4, none⟩ (.int .i64 0)).setCell ⟨w.heap.size, 5, none⟩ (.int .i64 0)).setCell ⟨w.heap.size, 6, none⟩ (.int .i64 0)).cell? ⟨w.heap.size, 5, none⟩ = some (.int .i64 0) from (S.at_ 2 rfl).cell 5)
        have r6 := Lib.hid (show (((((((w7.setCell ⟨w.heap.size, 0, none⟩ (.int .i64 0)).setCell ⟨w.heap.size, 1, none⟩ (.int .i64 0)).setCell ⟨w.heap.size, 2, none⟩ (.int .i64 0)).setCell ⟨w.heap.size, 3, none⟩ (.int .i64 0)).setCell ⟨w.heap.size, 4, none⟩ (.int .i64 0)).setCell ⟨w.heap.size, 5, none⟩ (.int .i64 0)).setCell ⟨w.heap.size, 6, none⟩ (.int .i64 0)).cell? ⟨w.heap.size, 6, none⟩ = some (.int .i64 0) from (S.at_ 2 rfl).cell 6)
        have CC := Lib.hid c
        clear S c
        go_wp2
        exact bodyPost_ret (v := .tuple #[.agg #[.int .i64 0, .int .i64 0, .int .i64 0, .int .i64 0, .int .i64 0, .int .i64 0, .int .i64 0], .bool false]) (by simp [results, Try.results9, go_sem, r0.out, r1.out, r2.out, r3.out, r4.out, r5.out, r6.out]) rfl ⟨by rw [HD.out] <;> rfl, CC.out⟩
      case true =>
        have HD := Lib.hid (show rowAskM d0 = (⟨x0, x1, x2, x3, x4, x5, x6⟩, true) by unfold rowAskM; rw [if_pos ⟨HL.out, HK.out, by rw [HO.out]; exact hok⟩, HO.out])
        clear hok
        have f7 : w7.cell? ⟨qe, 0, none⟩ = some (.int .i64 x0) := (S.at_ 0 rfl).cell 0
        have f8 : w7.cell? ⟨qe, 1, none⟩ = some (.int .i64 x1) := (S.at_ 0 rfl).cell 1
        have f9 : w7.cell? ⟨qe, 2, none⟩ = some (.int .i64 x2) := (S.at_ 0 rfl).cell 2
        have f10 : w7.cell? ⟨qe, 3, none⟩ = some (.int .i64 x3) := (S.at_ 0 rfl).cell 3
        have f11 : w7.cell? ⟨qe, 4, none⟩ = some (.int .i64 x4) := (S.at_ 0 rfl).cell 4
        have f12 : w7.cell? ⟨qe, 5, none⟩ = some (.int .i64 x5) := (S.at_ 0 rfl).cell 5
        have f13 : w7.cell? ⟨qe, 6, none⟩ = some (.int .i64 x6) := (S.at_ 0 rfl).cell 6
        have f14 : w7.cell? ⟨w.heap.size, 0, none⟩ = some (.int .i64 0) := (S.at_ 2 rfl).cell 0
        have f15 := (S.at_ 2 rfl).free 0
        have f16 : w7.cell? ⟨w.heap.size, 1, none⟩ = some (.int .i64 0) := (S.at_ 2 rfl).cell 1
        have f17 := (S.at_ 2 rfl).free 1
        have f18 : w7.cell? ⟨w.heap.size, 2, none⟩ = some (.int .i64 0) := (S.at_ 2 rfl).cell 2
        have f19 := (S.at_ 2 rfl).free 2
        have f20 : w7.cell? ⟨w.heap.size, 3, none⟩ = some (.int .i64 0) := (S.at_ 2 rfl).cell 3
        have f21 := (S.at_ 2 rfl).free 3
        have f22 : w7.cell? ⟨w.heap.size, 4, none⟩ = some (.int .i64 0) := (S.at_ 2 rfl).cell 4
        have f23 := (S.at_ 2 rfl).free 4
        have f24 : w7.cell? ⟨w.heap.size, 5, none⟩ = some (.int .i64 0) := (S.at_ 2 rfl).cell 5
        have f25 := (S.at_ 2 rfl).free 5
        have f26 : w7.cell? ⟨w.heap.size, 6, none⟩ = some (.int .i64 0) := (S.at_ 2 rfl).cell 6
        have f27 := (S.at_ 2 rfl).free 6
        replace S := S.put 2 rfl 0 (.int .i64 x0)
        replace c := c.setCell (p := ⟨w.heap.size, 0, none⟩) (by show w.heap.size ≤ w.heap.size; omega) (.int .i64 x0)
        replace S := S.put 2 rfl 1 (.int .i64 x1)
        replace c := c.setCell (p := ⟨w.heap.size, 1, none⟩) (by show w.heap.size ≤ w.heap.size; omega) (.int .i64 x1)
        replace S := S.put 2 rfl 2 (.int .i64 x2)
        replace c := c.setCell (p := ⟨w.heap.size, 2, none⟩) (by show w.heap.size ≤ w.heap.size; omega) (.int .i64 x2)
        replace S := S.put 2 rfl 3 (.int .i64 x3)
        replace c := c.setCell (p := ⟨w.heap.size, 3, none⟩) (by show w.heap.size ≤ w.heap.size; omega) (.int .i64 x3)
        replace S := S.put 2 rfl 4 (.int .i64 x4)
        replace c := c.setCell (p := ⟨w.heap.size, 4, none⟩) (by show w.heap.size ≤ w.heap.size; omega) (.int .i64 x4)
        replace S := S.put 2 rfl 5 (.int .i64 x5)
        replace c := c.setCell (p := ⟨w.heap.size, 5, none⟩) (by show w.heap.size ≤ w.heap.size; omega) (.int .i64 x5)
        replace S := S.put 2 rfl 6 (.int .i64 x6)
        replace c := c.setCell (p := ⟨w.heap.size, 6, none⟩) (by show w.heap.size ≤ w.heap.size; omega) (.int .i64 x6)
        have r0 := Lib.hid (show (((((((w7.setCell ⟨w.heap.size, 0, none⟩ (.int .i64 x0)).setCell ⟨w.heap.size, 1, none⟩ (.int .i64 x1)).setCell ⟨w.heap.size, 2, none⟩ (.int .i64 x2)).setCell ⟨w.heap.size, 3, none⟩ (.int .i64 x3)).setCell ⟨w.heap.size, 4, none⟩ (.int .i64 x4)).setCell ⟨w.heap.size, 5, none⟩ (.int .i64 x5)).setCell ⟨w.heap.size, 6, none⟩ (.int .i64 x6)).cell? ⟨w.heap.size, 0, none⟩ = some (.int .i64 x0) from (S.at_ 2 rfl).cell 0)
        have r1 := Lib.hid (show (((((((w7.setCell ⟨w.heap.size, 0, none⟩ (.int .i64 x0)).setCell ⟨w.heap.size, 1, none⟩ (.int .i64 x1)).setCell ⟨w.heap.size, 2, none⟩ (.int .i64 x2)).setCell ⟨w.heap.size, 3, none⟩ (.int .i64 x3)).setCell ⟨w.heap.size, 4, none⟩ (.int .i64 x4)).setCell ⟨w.heap.size, 5, none⟩ (.int .i64 x5)).setCell ⟨w.heap.size, 6, none⟩ (.int .i64 x6)).cell? ⟨w.heap.size, 1, none⟩ = some (.int .i64 x1) from (S.at_ 2 rfl).cell 1)
        have r2 := Lib.hid (show (((((((w7.setCell ⟨w.heap.size, 0, none⟩ (.int .i64 x0)).setCell ⟨w.heap.size, 1, none⟩ (.int .i64 x1)).setCell ⟨w.heap.size, 2, none⟩ (.int .i64 x2)).setCell ⟨w.heap.size, 3, none⟩ (.int .i64 x3)).setCell ⟨w.heap.size, 4, none⟩ (.int .i64 x4)).setCell ⟨w.heap.size, 5, none⟩ (.int .i64 x5)).setCell ⟨w.heap.size, 6, none⟩ (.int .i64 x6)).cell? ⟨w.heap.size, 2, none⟩ = some (.int .i64 x2) from (S.at_ 2 rfl).cell 2)
        have r3 := Lib.hid (show (((((((w7.setCell ⟨w.heap.size, 0, none⟩ (.int .i64 x0)).setCell ⟨w.heap.size, 1, none⟩ (.int .i64 x1)).setCell ⟨w.heap.size, 2, none⟩ (.int .i64 x2)).setCell ⟨w.heap.size, 3, none⟩ (.int .i64 x3)).setCell ⟨w.heap.size, 4, none⟩ (.int .i64 x4)).setCell ⟨w.heap.size, 5, none⟩ (.int .i64 x5)).setCell ⟨w.heap.size, 6, none⟩ (.int .i64 x6)).cell? ⟨w.heap.size, 3, none⟩ = some (.int .i64 x3) from (S.at_ 2 rfl).cell 3)
        have r4 := Lib.hid (show (((((((w7.setCell ⟨w.heap.size, 0, none⟩ (.int .i64 x0)).setCell ⟨w.heap.size, 1, none⟩ (.int .i64 x1)).setCell ⟨w.heap.size, 2, none⟩ (.int .i64 x2)).setCell ⟨w.heap.size, 3, none⟩ (.int .i64 x3)).setCell ⟨w.heap.size, 4, none⟩ (.int .i64 x4)).setCell ⟨w.heap.size, 5, none⟩ (.int .i64 x5)).setCell ⟨w.heap.size, 6, none⟩ (.int .i64 x6)).cell? ⟨w.heap.size, 4, none⟩ = some (.int .i64 x4) from (S.at_ 2 rfl).cell 4)
        have r5 := Lib.hid (show (((((((w7.setCell ⟨w.heap.size, 0, none⟩ (.int .i64 x0)).setCell ⟨w.heap.size, 1, none⟩ (.int .i64 x1)).setCell ⟨w.heap.size, 2, none⟩ (.int .i64 x2)).setCell ⟨w.heap.size, 3, none⟩ (.int .i64 x3)).setCell ⟨w.heap.size, 4, none⟩ (.int .i64 x4)).setCell ⟨w.heap.size, 5, none⟩ (.int .i64 x5)).setCell ⟨w.heap.size, 6, none⟩ (.int .i64 x6)).cell? ⟨w.heap.size, 5, none⟩ = some (.int .i64 x5) from (S.at_ 2 rfl).cell 5)
        have r6 := Lib.hid (show (((((((w7.setCell ⟨w.heap.size, 0, none⟩ (.int .i64 x0)).setCell ⟨w.heap.size, 1, none⟩ (.int .i64 x1)).setCell ⟨w.heap.size, 2, none⟩ (.int .i64 x2)).setCell ⟨w.heap.size, 3, none⟩ (.int .i64 x3)).setCell ⟨w.heap.size, 4, none⟩ (.int .i64 x4)).setCell ⟨w.heap.size, 5, none⟩ (.int .i64 x5)).setCell ⟨w.heap.size, 6, none⟩ (.int .i64 x6)).cell? ⟨w.heap.size, 6, none⟩ = some (.int .i64 x6) from (S.at_ 2 rfl).cell 6)
        have CC := Lib.hid c
        clear S c
        go_wp2
        exact bodyPost_ret (v := .tuple #[.agg #[.int .i64 x0, .int .i64 x1, .int .i64 x2, .int .i64 x3, .int .i64 x4, .int .i64 x5, .int .i64 x6], .bool true]) (by simp [results, Try.results9, go_sem, r0.out, r1.out, r2.out, r3.out, r4.out, r5.out, r6.out]) rfl ⟨by rw [HD.out] <;> rfl, CC.out⟩

end Go.Proofs.Ytgjlfambaiakbaa

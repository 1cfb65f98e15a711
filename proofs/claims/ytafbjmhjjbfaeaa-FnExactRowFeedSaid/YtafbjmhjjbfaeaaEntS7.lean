/-
  Chapter 7: an entry read from a row, of the model (by program, wip/gen/genent7.py).
-/
import Derived.Test.YtafbjmhjjbfaeaaEntS2
import Derived.Test.YtafbjmhjjbfaeaaEntS3
import Derived.RegionTactic
import Derived.BigQuiet
import Derived.Deep.MidRow
namespace Go.Proofs.Ytafbjmhjjbfaeaa
set_option maxRecDepth 100000
open Go.RowKit

set_option maxHeartbeats 12800000 in
theorem sRowEnt_any (A : Option Addr) (n cc B : Nat) (d : List Int) (w : World) (h : IRow w B A n d) (hB : B ≤ w.heap.size) (hm : n ≤ maxLen) (hnc : n ≤ cc) :
    Calls Try.prog 51 #[.slice A n cc] w fun e w' => e = .returned (.tuple #[.agg #[.int .i64 (rowEntM d).1.idx, .int .i64 (rowEntM d).1.tm, .int .i64 (rowEntM d).1.cl, .int .i64 (rowEntM d).1.sq, .int .i64 (rowEntM d).1.kd, .int .i64 (rowEntM d).1.oa, .int .i64 (rowEntM d).1.ob, .int .i64 (rowEntM d).1.oc, .int .i64 (rowEntM d).1.od], .bool (rowEntM d).2]) ∧ Below w.heap.size w w' := by
  unfold maxLen at hm
  by_cases hn : n = 9
  case neg =>
    have S := Sep.nil w w.heap.size
    have c := Below.refl w.heap.size w
    replace S := S.boxAt c.size (w.heap.size) rfl #[.int .i64 0, .int .i64 0, .int .i64 0, .int .i64 0, .int .i64 0, .int .i64 0, .int .i64 0, .int .i64 0, .int .i64 0] 72
    replace c := c.alloc c.size (.cells #[.int .i64 0, .int .i64 0, .int .i64 0, .int .i64 0, .int .i64 0, .int .i64 0, .int .i64 0, .int .i64 0, .int .i64 0] 72)
    have HD := Lib.hid (show rowEntM d = (ent0, false) by unfold rowEntM; rw [if_neg (by rw [h.1]; exact hn)])
    have hn2 : ((n : Int) != 9) = true := by simp; omega
    have hn3 : ((n : Int) == 9) = false := by simp; omega
    clear h
    go_enter Try.func51, Try.ntmps51
    have C := Lib.hid c
    clear S c
    go_wp2
    exact bodyPost_ret (v := .tuple #[.agg #[.int .i64 0, .int .i64 0, .int .i64 0, .int .i64 0, .int .i64 0, .int .i64 0, .int .i64 0, .int .i64 0, .int .i64 0], .bool false]) (by simp [results, Try.results51, go_sem]) rfl ⟨by rw [HD.out]; rfl, C.out⟩
  case pos =>
    subst hn
    obtain ⟨b, off, rfl, hb, hc⟩ := h.2 (by omega)
    obtain ⟨x0, hx0⟩ : ∃ x, x = d.getD 0 0 := ⟨_, rfl⟩
    obtain ⟨x1, hx1⟩ : ∃ x, x = d.getD 1 0 := ⟨_, rfl⟩
    obtain ⟨x2, hx2⟩ : ∃ x, x = d.getD 2 0 := ⟨_, rfl⟩
    obtain ⟨x3, hx3⟩ : ∃ x, x = d.getD 3 0 := ⟨_, rfl⟩
    obtain ⟨x4, hx4⟩ : ∃ x, x = d.getD 4 0 := ⟨_, rfl⟩
    obtain ⟨x5, hx5⟩ : ∃ x, x = d.getD 5 0 := ⟨_, rfl⟩
    obtain ⟨x6, hx6⟩ : ∃ x, x = d.getD 6 0 := ⟨_, rfl⟩
    obtain ⟨x7, hx7⟩ : ∃ x, x = d.getD 7 0 := ⟨_, rfl⟩
    obtain ⟨x8, hx8⟩ : ∃ x, x = d.getD 8 0 := ⟨_, rfl⟩
    have k0 := hc 0 (by omega)
    rw [← hx0] at k0
    have k1 := hc 1 (by omega)
    rw [← hx1] at k1
    have k2 := hc 2 (by omega)
    rw [← hx2] at k2
    have k3 := hc 3 (by omega)
    rw [← hx3] at k3
    rw [Nat.add_zero] at k0
    have HO := Lib.hid (show ofEnt d = ⟨x0, x1, x2, x3, x4, x5, x6, x7, x8⟩ by unfold ofEnt; rw [hx0, hx1, hx2, hx3, hx4, hx5, hx6, hx7, hx8])
    have HL := Lib.hid h.1
    have HP := Lib.hid (show rowOpM (d.drop 4) = if opB ⟨x4, x5, x6, x7, x8⟩ = true then (⟨x4, x5, x6, x7, x8⟩, true) else (⟨0, 0, 0, 0, 0⟩, false) by
      unfold rowOpM
      rw [if_pos (by rw [List.length_drop, h.1])]
      have e : ofOp (d.drop 4) = ⟨x4, x5, x6, x7, x8⟩ := by rw [hx4, hx5, hx6, hx7, hx8]; simp [ofOp, List.getD]
      rw [e]
      rfl)
    have hdr := h.drop4
    have hcc : ¬ (cc = 4) := by omega
    have hc4 : (4 : Int) ≤ 9 := by decide
    clear hc h hx0 hx1 hx2 hx3 hx4 hx5 hx6 hx7 hx8
    have S := Sep.nil w w.heap.size
    have c := Below.refl w.heap.size w
    replace S := S.boxAt c.size (w.heap.size) rfl #[.int .i64 0, .int .i64 0, .int .i64 0, .int .i64 0, .int .i64 0, .int .i64 0, .int .i64 0, .int .i64 0, .int .i64 0] 72
    replace c := c.alloc c.size (.cells #[.int .i64 0, .int .i64 0, .int .i64 0, .int .i64 0, .int .i64 0, .int .i64 0, .int .i64 0, .int .i64 0, .int .i64 0] 72)
    go_enter Try.func51, Try.ntmps51
    go_wp2_with fail
    generalize w.alloc (.cells #[.int .i64 0, .int .i64 0, .int .i64 0, .int .i64 0, .int .i64 0, .int .i64 0, .int .i64 0, .int .i64 0, .int .i64 0] 72) = w1 at *
    refine (sRowOp_any (some ⟨b, off + 4, none⟩) 5 (cc - 4) B (d.drop 4) _ (hdr.below (c.mono hB)) (Nat.le_trans hB c.size) (by decide)).mono ?_
    rintro e w2 ⟨rfl, b2⟩
    replace c := c.trans (b2.mono c.size)
    replace S := S.keep b2
    clear b2
    clear hdr
    rw [HP.out]
    cases hob : opB ⟨x4, x5, x6, x7, x8⟩
    case false =>
      have HD := Lib.hid (show rowEntM d = (ent0, false) by unfold rowEntM; rw [if_pos HL.out, HO.out, if_neg (fun h9 => by have := entB_op h9; rw [show (⟨x0, x1, x2, x3, x4, x5, x6, x7, x8⟩ : EntM).op = ⟨x4, x5, x6, x7, x8⟩ from rfl, hob] at this; cases this)])
      rw [if_neg (by decide)]
      clear hob
      replace S := S.boxAt c.size (w2.heap.size) rfl #[.int .i64 0, .int .i64 0, .int .i64 0, .int .i64 0, .int .i64 0] 70
      replace c := c.alloc c.size (.cells #[.int .i64 0, .int .i64 0, .int .i64 0, .int .i64 0, .int .i64 0] 70)
      go_wp2_with fail
      generalize w2.alloc (.cells #[.int .i64 0, .int .i64 0, .int .i64 0, .int .i64 0, .int .i64 0] 70) = w3 at *
      obtain ⟨qo, hqo⟩ : ∃ q, q = w2.heap.size := ⟨_, rfl⟩
      rw [← hqo] at S ⊢
      clear hqo
      refine wp_region_L (fun v => v.cell? ⟨qo, 0, none⟩ = some (.int .i64 0) ∧ v.cell? ⟨qo, 1, none⟩ = some (.int .i64 0) ∧ v.cell? ⟨qo, 2, none⟩ = some (.int .i64 0) ∧ v.cell? ⟨qo, 3, none⟩ = some (.int .i64 0) ∧ v.cell? ⟨qo, 4, none⟩ = some (.int .i64 0) ∧ v.cell? ⟨b, off, none⟩ = some (.int .i64 x0) ∧ v.cell? ⟨b, off + 1, none⟩ = some (.int .i64 x1) ∧ v.cell? ⟨b, off + 2, none⟩ = some (.int .i64 x2) ∧ v.cell? ⟨b, off + 3, none⟩ = some (.int .i64 x3)) 15 (by kernel_rfl) ?_
      replace S := S.keep ((Below.refl _ _).drew)
      replace c := c.drew
      generalize w3.drew = w4 at *
      have HF : w4.cell? ⟨qo, 0, none⟩ = some (.int .i64 0) ∧ w4.cell? ⟨qo, 1, none⟩ = some (.int .i64 0) ∧ w4.cell? ⟨qo, 2, none⟩ = some (.int .i64 0) ∧ w4.cell? ⟨qo, 3, none⟩ = some (.int .i64 0) ∧ w4.cell? ⟨qo, 4, none⟩ = some (.int .i64 0) ∧ w4.cell? ⟨b, off, none⟩ = some (.int .i64 x0) ∧ w4.cell? ⟨b, off + 1, none⟩ = some (.int .i64 x1) ∧ w4.cell? ⟨b, off + 2, none⟩ = some (.int .i64 x2) ∧ w4.cell? ⟨b, off + 3, none⟩ = some (.int .i64 x3) := ⟨(S.at_ 0 rfl).cell 0, (S.at_ 0 rfl).cell 1, (S.at_ 0 rfl).cell 2, (S.at_ 0 rfl).cell 3, (S.at_ 0 rfl).cell 4, (c.cell (p := ⟨b, off, none⟩) (show b < _ by omega)).trans k0, (c.cell (p := ⟨b, off + 1, none⟩) (show b < _ by omega)).trans k1, (c.cell (p := ⟨b, off + 2, none⟩) (show b < _ by omega)).trans k2, (c.cell (p := ⟨b, off + 3, none⟩) (show b < _ by omega)).trans k3⟩
      refine wpAnyL_take (i := 0) (v := ?_) rfl rfl (by kernel_rfl) (by kernel_rfl) (by kernel_rfl) (by kernel_rfl) (by kernel_rfl) (fun _ _ _ h => h) HF (Or.inl ⟨by rfl, ?_⟩) ?_
      rotate_left 1
      · (rintro v ⟨a0, a1, a2, a3, a4, a5, a6, a7, a8⟩; go_simp; try with_reducible rfl)
      try simp only [Act.put]
      refine wpAnyL_take (i := 1) (v := ?_) rfl rfl (by kernel_rfl) (by kernel_rfl) (by kernel_rfl) (by kernel_rfl) (by kernel_rfl) (fun _ _ _ h => h) HF (Or.inl ⟨by rfl, ?_⟩) ?_
      rotate_left 1
      · (rintro v ⟨a0, a1, a2, a3, a4, a5, a6, a7, a8⟩; go_simp; try with_reducible rfl)
      try simp only [Act.put]
      refine wpAnyL_take (i := 2) (v := ?_) rfl rfl (by kernel_rfl) (by kernel_rfl) (by kernel_rfl) (by kernel_rfl) (by kernel_rfl) (fun _ _ _ h => h) HF (Or.inl ⟨by rfl, ?_⟩) ?_
      rotate_left 1
      · (rintro v ⟨a0, a1, a2, a3, a4, a5, a6, a7, a8⟩; go_simp; try with_reducible rfl)
      try simp only [Act.put]
      refine wpAnyL_take (i := 3) (v := ?_) rfl rfl (by kernel_rfl) (by kernel_rfl) (by kernel_rfl) (by kernel_rfl) (by kernel_rfl) (fun _ _ _ h => h) HF (Or.inl ⟨by rfl, ?_⟩) ?_
      rotate_left 1
      · (rintro v ⟨a0, a1, a2, a3, a4, a5, a6, a7, a8⟩; go_simp; try with_reducible rfl)
      try simp only [Act.put]
      refine wpAnyL_take (i := 4) (v := ?_) rfl rfl (by kernel_rfl) (by kernel_rfl) (by kernel_rfl) (by kernel_rfl) (by kernel_rfl) (fun _ _ _ h => h) HF (Or.inl ⟨by rfl, ?_⟩) ?_
      rotate_left 1
      · (rintro v ⟨a0, a1, a2, a3, a4, a5, a6, a7, a8⟩; go_simp; try with_reducible rfl)
      try simp only [Act.put]
      refine wpAnyL_take (i := 5) (v := ?_) rfl rfl (by kernel_rfl) (by kernel_rfl) (by kernel_rfl) (by kernel_rfl) (by kernel_rfl) (fun _ _ _ h => h) HF (Or.inl ⟨by rfl, ?_⟩) ?_
      rotate_left 1
      · (rintro v ⟨a0, a1, a2, a3, a4, a5, a6, a7, a8⟩; go_simp; try with_reducible rfl)
      try simp only [Act.put]
      refine wpAnyL_take (i := 6) (v := ?_) rfl rfl (by kernel_rfl) (by kernel_rfl) (by kernel_rfl) (by kernel_rfl) (by kernel_rfl) (fun _ _ _ h => h) HF (Or.inl ⟨by rfl, ?_⟩) ?_
      rotate_left 1
      · (rintro v ⟨a0, a1, a2, a3, a4, a5, a6, a7, a8⟩; go_simp; try with_reducible rfl)
      try simp only [Act.put]
      refine wpAnyL_take (i := 7) (v := ?_) rfl rfl (by kernel_rfl) (by kernel_rfl) (by kernel_rfl) (by kernel_rfl) (by kernel_rfl) (fun _ _ _ h => h) HF (Or.inl ⟨by rfl, ?_⟩) ?_
      rotate_left 1
      · (rintro v ⟨a0, a1, a2, a3, a4, a5, a6, a7, a8⟩; go_simp; try with_reducible rfl)
      try simp only [Act.put]
      refine wpAnyL_take (i := 8) (v := ?_) rfl rfl (by kernel_rfl) (by kernel_rfl) (by kernel_rfl) (by kernel_rfl) (by kernel_rfl) (fun _ _ _ h => h) HF (Or.inl ⟨by rfl, ?_⟩) ?_
      rotate_left 1
      · (rintro v ⟨a0, a1, a2, a3, a4, a5, a6, a7, a8⟩; go_simp; try with_reducible rfl)
      try simp only [Act.put]
      refine wpAnyL_take (i := 9) (v := ?_) rfl rfl (by kernel_rfl) (by kernel_rfl) (by kernel_rfl) (by kernel_rfl) (by kernel_rfl) (fun _ _ _ h => h) HF (Or.inl ⟨by rfl, ?_⟩) ?_
      rotate_left 1
      · (rintro v ⟨a0, a1, a2, a3, a4, a5, a6, a7, a8⟩; go_simp; try with_reducible rfl)
      try simp only [Act.put]
      refine wpAnyL_take (i := 10) (v := ?_) rfl rfl (by kernel_rfl) (by kernel_rfl) (by kernel_rfl) (by kernel_rfl) (by kernel_rfl) (fun _ _ _ h => h) HF (Or.inl ⟨by rfl, ?_⟩) ?_
      rotate_left 1
      · (rintro v ⟨a0, a1, a2, a3, a4, a5, a6, a7, a8⟩; go_simp; try with_reducible rfl)
      try simp only [Act.put]
      refine wpAnyL_take (i := 11) (v := ?_) rfl rfl (by kernel_rfl) (by kernel_rfl) (by kernel_rfl) (by kernel_rfl) (by kernel_rfl) (fun _ _ _ h => h) HF (Or.inl ⟨by rfl, ?_⟩) ?_
      rotate_left 1
      · (rintro v ⟨a0, a1, a2, a3, a4, a5, a6, a7, a8⟩; go_simp; try with_reducible rfl)
      try simp only [Act.put]
      refine wpAnyL_take (i := 12) (v := ?_) rfl rfl (by kernel_rfl) (by kernel_rfl) (by kernel_rfl) (by kernel_rfl) (by kernel_rfl) (fun _ _ _ h => h) HF (Or.inl ⟨by rfl, ?_⟩) ?_
      rotate_left 1
      · (rintro v ⟨a0, a1, a2, a3, a4, a5, a6, a7, a8⟩; go_simp; try with_reducible rfl)
      try simp only [Act.put]
      refine wpAnyL_take (i := 13) (v := ?_) rfl rfl (by kernel_rfl) (by kernel_rfl) (by kernel_rfl) (by kernel_rfl) (by kernel_rfl) (fun _ _ _ h => h) HF (Or.inl ⟨by rfl, ?_⟩) ?_
      rotate_left 1
      · (rintro v ⟨a0, a1, a2, a3, a4, a5, a6, a7, a8⟩; go_simp; try with_reducible rfl)
      try simp only [Act.put]
      refine wpAnyL_step (i := 14) (by kernel_rfl) rfl rfl ?_
      intro K hK
      go_simp
      replace S := S.boxAt c.size (w4.heap.size) rfl #[.int .i64 0, .int .i64 0, .int .i64 0, .int .i64 0, .int .i64 0, .int .i64 0, .int .i64 0, .int .i64 0, .int .i64 0] 72
      replace c := c.alloc c.size (.cells #[.int .i64 0, .int .i64 0, .int .i64 0, .int .i64 0, .int .i64 0, .int .i64 0, .int .i64 0, .int .i64 0, .int .i64 0] 72)
      clear HF
      have HF : (w4.alloc (.cells #[.int .i64 0, .int .i64 0, .int .i64 0, .int .i64 0, .int .i64 0, .int .i64 0, .int .i64 0, .int .i64 0, .int .i64 0] 72)).cell? ⟨qo, 0, none⟩ = some (.int .i64 0) ∧ (w4.alloc (.cells #[.int .i64 0, .int .i64 0, .int .i64 0, .int .i64 0, .int .i64 0, .int .i64 0, .int .i64 0, .int .i64 0, .int .i64 0] 72)).cell? ⟨qo, 1, none⟩ = some (.int .i64 0) ∧ (w4.alloc (.cells #[.int .i64 0, .int .i64 0, .int .i64 0, .int .i64 0, .int .i64 0, .int .i64 0, .int .i64 0, .int .i64 0, .int .i64 0] 72)).cell? ⟨qo, 2, none⟩ = some (.int .i64 0) ∧ (w4.alloc (.cells #[.int .i64 0, .int .i64 0, .int .i64 0, .int .i64 0, .int .i64 0, .int .i64 0, .int .i64 0, .int .i64 0, .int .i64 0] 72)).cell? ⟨qo, 3, none⟩ = some (.int .i64 0) ∧ (w4.alloc (.cells #[.int .i64 0, .int .i64 0, .int .i64 0, .int .i64 0, .int .i64 0, .int .i64 0, .int .i64 0, .int .i64 0, .int .i64 0] 72)).cell? ⟨qo, 4, none⟩ = some (.int .i64 0) ∧ (w4.alloc (.cells #[.int .i64 0, .int .i64 0, .int .i64 0, .int .i64 0, .int .i64 0, .int .i64 0, .int .i64 0, .int .i64 0, .int .i64 0] 72)).cell? ⟨b, off, none⟩ = some (.int .i64 x0) ∧ (w4.alloc (.cells #[.int .i64 0, .int .i64 0, .int .i64 0, .int .i64 0, .int .i64 0, .int .i64 0, .int .i64 0, .int .i64 0, .int .i64 0] 72)).cell? ⟨b, off + 1, none⟩ = some (.int .i64 x1) ∧ (w4.alloc (.cells #[.int .i64 0, .int .i64 0, .int .i64 0, .int .i64 0, .int .i64 0, .int .i64 0, .int .i64 0, .int .i64 0, .int .i64 0] 72)).cell? ⟨b, off + 2, none⟩ = some (.int .i64 x2) ∧ (w4.alloc (.cells #[.int .i64 0, .int .i64 0, .int .i64 0, .int .i64 0, .int .i64 0, .int .i64 0, .int .i64 0, .int .i64 0, .int .i64 0] 72)).cell? ⟨b, off + 3, none⟩ = some (.int .i64 x3) := ⟨(S.at_ 1 rfl).cell 0, (S.at_ 1 rfl).cell 1, (S.at_ 1 rfl).cell 2, (S.at_ 1 rfl).cell 3, (S.at_ 1 rfl).cell 4, (c.cell (p := ⟨b, off, none⟩) (show b < _ by omega)).trans k0, (c.cell (p := ⟨b, off + 1, none⟩) (show b < _ by omega)).trans k1, (c.cell (p := ⟨b, off + 2, none⟩) (show b < _ by omega)).trans k2, (c.cell (p := ⟨b, off + 3, none⟩) (show b < _ by omega)).trans k3⟩
      refine hK _ _ (fun _ => HF) ?_
      clear hK K
      try simp only [Act.put]
      generalize hw : w4.alloc (.cells #[.int .i64 0, .int .i64 0, .int .i64 0, .int .i64 0, .int .i64 0, .int .i64 0, .int .i64 0, .int .i64 0, .int .i64 0] 72) = w5 at *
      clear hw
      obtain ⟨qe, hqe⟩ : ∃ q, q = w4.heap.size := ⟨_, rfl⟩
      rw [← hqe] at S ⊢
      clear hqe
      refine wpAnyL_step (i := 15) (by kernel_rfl) rfl rfl ?_
      intro K hK
      refine wp_store_row _ _ _ rfl qe #[.int .i64 x0, .int .i64 x1, .int .i64 x2, .int .i64 x3, .int .i64 0, .int .i64 0, .int .i64 0, .int .i64 0, .int .i64 0] (by rfl) (by rfl) 72 #[.int .i64 0, .int .i64 0, .int .i64 0, .int .i64 0, .int .i64 0, .int .i64 0, .int .i64 0, .int .i64 0, .int .i64 0] (S.at_ 0 rfl) (show _ = some 9 by kernel_rfl) rfl (all_oneCell_toArray (cs := [.int .i64 x0, .int .i64 x1, .int .i64 x2, .int .i64 x3, .int .i64 0, .int .i64 0, .int .i64 0, .int .i64 0, .int .i64 0]) (by intro u hu; simp at hu; cases u <;> simp_all [Value.oneCell'])) ?_
      refine hK _ _ (fun h => nomatch (show true = false from h)) ?_
      clear hK K
      try simp only [Act.put]
      refine wpAnyL_done (by kernel_rfl) ?_ _
      replace c := c.trans ((touch_setRow w5 qe #[.int .i64 x0, .int .i64 x1, .int .i64 x2, .int .i64 x3, .int .i64 0, .int .i64 0, .int .i64 0, .int .i64 0, .int .i64 0]).below (fun q hq => by rw [List.mem_singleton.1 hq]; exact S.base_le 0 rfl) c.size)
      replace S := S.row 0 rfl #[.int .i64 x0, .int .i64 x1, .int .i64 x2, .int .i64 x3, .int .i64 0, .int .i64 0, .int .i64 0, .int .i64 0, .int .i64 0]
      generalize w5.setRow qe #[.int .i64 x0, .int .i64 x1, .int .i64 x2, .int .i64 x3, .int .i64 0, .int .i64 0, .int .i64 0, .int .i64 0, .int .i64 0] = w6 at *
      clear HF
      have f0 : w6.cell? ⟨w.heap.size, 0, none⟩ = some (.int .i64 0) := (S.at_ 2 rfl).cell 0
      have f1 := (S.at_ 2 rfl).free 0
      have f2 : w6.cell? ⟨w.heap.size, 1, none⟩ = some (.int .i64 0) := (S.at_ 2 rfl).cell 1
      have f3 := (S.at_ 2 rfl).free 1
      have f4 : w6.cell? ⟨w.heap.size, 2, none⟩ = some (.int .i64 0) := (S.at_ 2 rfl).cell 2
      have f5 := (S.at_ 2 rfl).free 2
      have f6 : w6.cell? ⟨w.heap.size, 3, none⟩ = some (.int .i64 0) := (S.at_ 2 rfl).cell 3
      have f7 := (S.at_ 2 rfl).free 3
      have f8 : w6.cell? ⟨w.heap.size, 4, none⟩ = some (.int .i64 0) := (S.at_ 2 rfl).cell 4
      have f9 := (S.at_ 2 rfl).free 4
      have f10 : w6.cell? ⟨w.heap.size, 5, none⟩ = some (.int .i64 0) := (S.at_ 2 rfl).cell 5
      have f11 := (S.at_ 2 rfl).free 5
      have f12 : w6.cell? ⟨w.heap.size, 6, none⟩ = some (.int .i64 0) := (S.at_ 2 rfl).cell 6
      have f13 := (S.at_ 2 rfl).free 6
      have f14 : w6.cell? ⟨w.heap.size, 7, none⟩ = some (.int .i64 0) := (S.at_ 2 rfl).cell 7
      have f15 := (S.at_ 2 rfl).free 7
      have f16 : w6.cell? ⟨w.heap.size, 8, none⟩ = some (.int .i64 0) := (S.at_ 2 rfl).cell 8
      have f17 := (S.at_ 2 rfl).free 8
      replace S := S.put 2 rfl 0 (.int .i64 0)
      replace c := c.setCell (p := ⟨w.heap.size, 0, none⟩) (by show w.heap.size ≤ w.heap.size; omega) (.int .i64 0)
      replace S := S.put 2 rfl 1 (.int .i64 0)
      replace c := c.setCell (p := ⟨w.heap.size, 1, none⟩) (by show w.heap.size ≤ w.heap.size; omega) (.int .i64 0)
      replace S := S.put 2 rfl 2 (.int .i64 0)
      replace c := c.setCell (p := ⟨w.heap.size, 2, none⟩) (by show w.heap.size ≤ w.heap.size; omega) (.int .i64 0)
      replace S := S.put 2 rfl 3 (.int .i64 0)
      replace c := c.setCell (p := ⟨w.heap.size, 3, none⟩) (by show w.heap.size ≤ w.heap.size; omega) (.int .i64 0)
      replace S := S.put 2 rfl 4 (.int .i64 0)
      replace c := c.setCell (p := ⟨w.heap.size, 4, none⟩) (by show w.heap.size ≤ w.heap.size; omega) (.int .i64 0)
      replace S := S.put 2 rfl 5 (.int .i64 0)
      replace c := c.setCell (p := ⟨w.heap.size, 5, none⟩) (by show w.heap.size ≤ w.heap.size; omega) (.int .i64 0)
      replace S := S.put 2 rfl 6 (.int .i64 0)
      replace c := c.setCell (p := ⟨w.heap.size, 6, none⟩) (by show w.heap.size ≤ w.heap.size; omega) (.int .i64 0)
      replace S := S.put 2 rfl 7 (.int .i64 0)
      replace c := c.setCell (p := ⟨w.heap.size, 7, none⟩) (by show w.heap.size ≤ w.heap.size; omega) (.int .i64 0)
      replace S := S.put 2 rfl 8 (.int .i64 0)
      replace c := c.setCell (p := ⟨w.heap.size, 8, none⟩) (by show w.heap.size ≤ w.heap.size; omega) (.int .i64 0)
      have r0 := Lib.hid ((S.at_ 2 rfl).cell 0)
      have r1 := Lib.hid ((S.at_ 2 rfl).cell 1)
      have r2 := Lib.hid ((S.at_ 2 rfl).cell 2)
      have r3 := Lib.hid ((S.at_ 2 rfl).cell 3)
      have r4 := Lib.hid ((S.at_ 2 rfl).cell 4)
      have r5 := Lib.hid ((S.at_ 2 rfl).cell 5)
      have r6 := Lib.hid ((S.at_ 2 rfl).cell 6)
      have r7 := Lib.hid ((S.at_ 2 rfl).cell 7)
      have r8 := Lib.hid ((S.at_ 2 rfl).cell 8)
      have C := Lib.hid c
      clear S c
      go_wp2
      exact bodyPost_ret (v := .tuple #[.agg #[.int .i64 0, .int .i64 0, .int .i64 0, .int .i64 0, .int .i64 0, .int .i64 0, .int .i64 0, .int .i64 0, .int .i64 0], .bool false]) (by simp [results, Try.results51, go_sem, r0.out, r1.out, r2.out, r3.out, r4.out, r5.out, r6.out, r7.out, r8.out]) rfl ⟨by first | (rw [HD.out]; done) | (rw [HD.out]; rfl), C.out⟩
    case true =>
      have HOB := Lib.hid hob
      clear hob
      rw [if_pos rfl]
      replace S := S.boxAt c.size (w2.heap.size) rfl #[.int .i64 x4, .int .i64 x5, .int .i64 x6, .int .i64 x7, .int .i64 x8] 70
      replace c := c.alloc c.size (.cells #[.int .i64 x4, .int .i64 x5, .int .i64 x6, .int .i64 x7, .int .i64 x8] 70)
      go_wp2_with fail
      generalize w2.alloc (.cells #[.int .i64 x4, .int .i64 x5, .int .i64 x6, .int .i64 x7, .int .i64 x8] 70) = w3 at *
      obtain ⟨qo, hqo⟩ : ∃ q, q = w2.heap.size := ⟨_, rfl⟩
      rw [← hqo] at S ⊢
      clear hqo
      refine wp_region_L (fun v => v.cell? ⟨qo, 0, none⟩ = some (.int .i64 x4) ∧ v.cell? ⟨qo, 1, none⟩ = some (.int .i64 x5) ∧ v.cell? ⟨qo, 2, none⟩ = some (.int .i64 x6) ∧ v.cell? ⟨qo, 3, none⟩ = some (.int .i64 x7) ∧ v.cell? ⟨qo, 4, none⟩ = some (.int .i64 x8) ∧ v.cell? ⟨b, off, none⟩ = some (.int .i64 x0) ∧ v.cell? ⟨b, off + 1, none⟩ = some (.int .i64 x1) ∧ v.cell? ⟨b, off + 2, none⟩ = some (.int .i64 x2) ∧ v.cell? ⟨b, off + 3, none⟩ = some (.int .i64 x3)) 15 (by kernel_rfl) ?_
      replace S := S.keep ((Below.refl _ _).drew)
      replace c := c.drew
      generalize w3.drew = w4 at *
      have HF : w4.cell? ⟨qo, 0, none⟩ = some (.int .i64 x4) ∧ w4.cell? ⟨qo, 1, none⟩ = some (.int .i64 x5) ∧ w4.cell? ⟨qo, 2, none⟩ = some (.int .i64 x6) ∧ w4.cell? ⟨qo, 3, none⟩ = some (.int .i64 x7) ∧ w4.cell? ⟨qo, 4, none⟩ = some (.int .i64 x8) ∧ w4.cell? ⟨b, off, none⟩ = some (.int .i64 x0) ∧ w4.cell? ⟨b, off + 1, none⟩ = some (.int .i64 x1) ∧ w4.cell? ⟨b, off + 2, none⟩ = some (.int .i64 x2) ∧ w4.cell? ⟨b, off + 3, none⟩ = some (.int .i64 x3) := ⟨(S.at_ 0 rfl).cell 0, (S.at_ 0 rfl).cell 1, (S.at_ 0 rfl).cell 2, (S.at_ 0 rfl).cell 3, (S.at_ 0 rfl).cell 4, (c.cell (p := ⟨b, off, none⟩) (show b < _ by omega)).trans k0, (c.cell (p := ⟨b, off + 1, none⟩) (show b < _ by omega)).trans k1, (c.cell (p := ⟨b, off + 2, none⟩) (show b < _ by omega)).trans k2, (c.cell (p := ⟨b, off + 3, none⟩) (show b < _ by omega)).trans k3⟩
      refine wpAnyL_take (i := 0) (v := ?_) rfl rfl (by kernel_rfl) (by kernel_rfl) (by kernel_rfl) (by kernel_rfl) (by kernel_rfl) (fun _ _ _ h => h) HF (Or.inl ⟨by rfl, ?_⟩) ?_
      rotate_left 1
      · (rintro v ⟨a0, a1, a2, a3, a4, a5, a6, a7, a8⟩; go_simp; try with_reducible rfl)
      try simp only [Act.put]
      refine wpAnyL_take (i := 1) (v := ?_) rfl rfl (by kernel_rfl) (by kernel_rfl) (by kernel_rfl) (by kernel_rfl) (by kernel_rfl) (fun _ _ _ h => h) HF (Or.inl ⟨by rfl, ?_⟩) ?_
      rotate_left 1
      · (rintro v ⟨a0, a1, a2, a3, a4, a5, a6, a7, a8⟩; go_simp; try with_reducible rfl)
      try simp only [Act.put]
      refine wpAnyL_take (i := 2) (v := ?_) rfl rfl (by kernel_rfl) (by kernel_rfl) (by kernel_rfl) (by kernel_rfl) (by kernel_rfl) (fun _ _ _ h => h) HF (Or.inl ⟨by rfl, ?_⟩) ?_
      rotate_left 1
      · (rintro v ⟨a0, a1, a2, a3, a4, a5, a6, a7, a8⟩; go_simp; try with_reducible rfl)
      try simp only [Act.put]
      refine wpAnyL_take (i := 3) (v := ?_) rfl rfl (by kernel_rfl) (by kernel_rfl) (by kernel_rfl) (by kernel_rfl) (by kernel_rfl) (fun _ _ _ h => h) HF (Or.inl ⟨by rfl, ?_⟩) ?_
      rotate_left 1
      · (rintro v ⟨a0, a1, a2, a3, a4, a5, a6, a7, a8⟩; go_simp; try with_reducible rfl)
      try simp only [Act.put]
      refine wpAnyL_take (i := 4) (v := ?_) rfl rfl (by kernel_rfl) (by kernel_rfl) (by kernel_rfl) (by kernel_rfl) (by kernel_rfl) (fun _ _ _ h => h) HF (Or.inl ⟨by rfl, ?_⟩) ?_
      rotate_left 1
      · (rintro v ⟨a0, a1, a2, a3, a4, a5, a6, a7, a8⟩; go_simp; try with_reducible rfl)
      try simp only [Act.put]
      refine wpAnyL_take (i := 5) (v := ?_) rfl rfl (by kernel_rfl) (by kernel_rfl) (by kernel_rfl) (by kernel_rfl) (by kernel_rfl) (fun _ _ _ h => h) HF (Or.inl ⟨by rfl, ?_⟩) ?_
      rotate_left 1
      · (rintro v ⟨a0, a1, a2, a3, a4, a5, a6, a7, a8⟩; go_simp; try with_reducible rfl)
      try simp only [Act.put]
      refine wpAnyL_take (i := 6) (v := ?_) rfl rfl (by kernel_rfl) (by kernel_rfl) (by kernel_rfl) (by kernel_rfl) (by kernel_rfl) (fun _ _ _ h => h) HF (Or.inl ⟨by rfl, ?_⟩) ?_
      rotate_left 1
      · (rintro v ⟨a0, a1, a2, a3, a4, a5, a6, a7, a8⟩; go_simp; try with_reducible rfl)
      try simp only [Act.put]
      refine wpAnyL_take (i := 7) (v := ?_) rfl rfl (by kernel_rfl) (by kernel_rfl) (by kernel_rfl) (by kernel_rfl) (by kernel_rfl) (fun _ _ _ h => h) HF (Or.inl ⟨by rfl, ?_⟩) ?_
      rotate_left 1
      · (rintro v ⟨a0, a1, a2, a3, a4, a5, a6, a7, a8⟩; go_simp; try with_reducible rfl)
      try simp only [Act.put]
      refine wpAnyL_take (i := 8) (v := ?_) rfl rfl (by kernel_rfl) (by kernel_rfl) (by kernel_rfl) (by kernel_rfl) (by kernel_rfl) (fun _ _ _ h => h) HF (Or.inl ⟨by rfl, ?_⟩) ?_
      rotate_left 1
      · (rintro v ⟨a0, a1, a2, a3, a4, a5, a6, a7, a8⟩; go_simp; try with_reducible rfl)
      try simp only [Act.put]
      refine wpAnyL_take (i := 9) (v := ?_) rfl rfl (by kernel_rfl) (by kernel_rfl) (by kernel_rfl) (by kernel_rfl) (by kernel_rfl) (fun _ _ _ h => h) HF (Or.inl ⟨by rfl, ?_⟩) ?_
      rotate_left 1
      · (rintro v ⟨a0, a1, a2, a3, a4, a5, a6, a7, a8⟩; go_simp; try with_reducible rfl)
      try simp only [Act.put]
      refine wpAnyL_take (i := 10) (v := ?_) rfl rfl (by kernel_rfl) (by kernel_rfl) (by kernel_rfl) (by kernel_rfl) (by kernel_rfl) (fun _ _ _ h => h) HF (Or.inl ⟨by rfl, ?_⟩) ?_
      rotate_left 1
      · (rintro v ⟨a0, a1, a2, a3, a4, a5, a6, a7, a8⟩; go_simp; try with_reducible rfl)
      try simp only [Act.put]
      refine wpAnyL_take (i := 11) (v := ?_) rfl rfl (by kernel_rfl) (by kernel_rfl) (by kernel_rfl) (by kernel_rfl) (by kernel_rfl) (fun _ _ _ h => h) HF (Or.inl ⟨by rfl, ?_⟩) ?_
      rotate_left 1
      · (rintro v ⟨a0, a1, a2, a3, a4, a5, a6, a7, a8⟩; go_simp; try with_reducible rfl)
      try simp only [Act.put]
      refine wpAnyL_take (i := 12) (v := ?_) rfl rfl (by kernel_rfl) (by kernel_rfl) (by kernel_rfl) (by kernel_rfl) (by kernel_rfl) (fun _ _ _ h => h) HF (Or.inl ⟨by rfl, ?_⟩) ?_
      rotate_left 1
      · (rintro v ⟨a0, a1, a2, a3, a4, a5, a6, a7, a8⟩; go_simp; try with_reducible rfl)
      try simp only [Act.put]
      refine wpAnyL_take (i := 13) (v := ?_) rfl rfl (by kernel_rfl) (by kernel_rfl) (by kernel_rfl) (by kernel_rfl) (by kernel_rfl) (fun _ _ _ h => h) HF (Or.inl ⟨by rfl, ?_⟩) ?_
      rotate_left 1
      · (rintro v ⟨a0, a1, a2, a3, a4, a5, a6, a7, a8⟩; go_simp; try with_reducible rfl)
      try simp only [Act.put]
      refine wpAnyL_step (i := 14) (by kernel_rfl) rfl rfl ?_
      intro K hK
      go_simp
      replace S := S.boxAt c.size (w4.heap.size) rfl #[.int .i64 0, .int .i64 0, .int .i64 0, .int .i64 0, .int .i64 0, .int .i64 0, .int .i64 0, .int .i64 0, .int .i64 0] 72
      replace c := c.alloc c.size (.cells #[.int .i64 0, .int .i64 0, .int .i64 0, .int .i64 0, .int .i64 0, .int .i64 0, .int .i64 0, .int .i64 0, .int .i64 0] 72)
      clear HF
      have HF : (w4.alloc (.cells #[.int .i64 0, .int .i64 0, .int .i64 0, .int .i64 0, .int .i64 0, .int .i64 0, .int .i64 0, .int .i64 0, .int .i64 0] 72)).cell? ⟨qo, 0, none⟩ = some (.int .i64 x4) ∧ (w4.alloc (.cells #[.int .i64 0, .int .i64 0, .int .i64 0, .int .i64 0, .int .i64 0, .int .i64 0, .int .i64 0, .int .i64 0, .int .i64 0] 72)).cell? ⟨qo, 1, none⟩ = some (.int .i64 x5) ∧ (w4.alloc (.cells #[.int .i64 0, .int .i64 0, .int .i64 0, .int .i64 0, .int .i64 0, .int .i64 0, .int .i64 0, .int .i64 0, .int .i64 0] 72)).cell? ⟨qo, 2, none⟩ = some (.int .i64 x6) ∧ (w4.alloc (.cells #[.int .i64 0, .int .i64 0, .int .i64 0, .int .i64 0, .int .i64 0, .int .i64 0, .int .i64 0, .int .i64 0, .int .i64 0] 72)).cell? ⟨qo, 3, none⟩ = some (.int .i64 x7) ∧ (w4.alloc (.cells #[.int .i64 0, .int .i64 0, .int .i64 0, .int .i64 0, .int .i64 0, .int .i64 0, .int .i64 0, .int .i64 0, .int .i64 0] 72)).cell? ⟨qo, 4, none⟩ = some (.int .i64 x8) ∧ (w4.alloc (.cells #[.int .i64 0, .int .i64 0, .int .i64 0, .int .i64 0, .int .i64 0, .int .i64 0, .int .i64 0, .int .i64 0, .int .i64 0] 72)).cell? ⟨b, off, none⟩ = some (.int .i64 x0) ∧ (w4.alloc (.cells #[.int .i64 0, .int .i64 0, .int .i64 0, .int .i64 0, .int .i64 0, .int .i64 0, .int .i64 0, .int .i64 0, .int .i64 0] 72)).cell? ⟨b, off + 1, none⟩ = some (.int .i64 x1) ∧ (w4.alloc (.cells #[.int .i64 0, .int .i64 0, .int .i64 0, .int .i64 0, .int .i64 0, .int .i64 0, .int .i64 0, .int .i64 0, .int .i64 0] 72)).cell? ⟨b, off + 2, none⟩ = some (.int .i64 x2) ∧ (w4.alloc (.cells #[.int .i64 0, .int .i64 0, .int .i64 0, .int .i64 0, .int .i64 0, .int .i64 0, .int .i64 0, .int .i64 0, .int .i64 0] 72)).cell? ⟨b, off + 3, none⟩ = some (.int .i64 x3) := ⟨(S.at_ 1 rfl).cell 0, (S.at_ 1 rfl).cell 1, (S.at_ 1 rfl).cell 2, (S.at_ 1 rfl).cell 3, (S.at_ 1 rfl).cell 4, (c.cell (p := ⟨b, off, none⟩) (show b < _ by omega)).trans k0, (c.cell (p := ⟨b, off + 1, none⟩) (show b < _ by omega)).trans k1, (c.cell (p := ⟨b, off + 2, none⟩) (show b < _ by omega)).trans k2, (c.cell (p := ⟨b, off + 3, none⟩) (show b < _ by omega)).trans k3⟩
      refine hK _ _ (fun _ => HF) ?_
      clear hK K
      try simp only [Act.put]
      generalize hw : w4.alloc (.cells #[.int .i64 0, .int .i64 0, .int .i64 0, .int .i64 0, .int .i64 0, .int .i64 0, .int .i64 0, .int .i64 0, .int .i64 0] 72) = w5 at *
      clear hw
      obtain ⟨qe, hqe⟩ : ∃ q, q = w4.heap.size := ⟨_, rfl⟩
      rw [← hqe] at S ⊢
      clear hqe
      refine wpAnyL_step (i := 15) (by kernel_rfl) rfl rfl ?_
      intro K hK
      refine wp_store_row _ _ _ rfl qe #[.int .i64 x0, .int .i64 x1, .int .i64 x2, .int .i64 x3, .int .i64 x4, .int .i64 x5, .int .i64 x6, .int .i64 x7, .int .i64 x8] (by rfl) (by rfl) 72 #[.int .i64 0, .int .i64 0, .int .i64 0, .int .i64 0, .int .i64 0, .int .i64 0, .int .i64 0, .int .i64 0, .int .i64 0] (S.at_ 0 rfl) (show _ = some 9 by kernel_rfl) rfl (all_oneCell_toArray (cs := [.int .i64 x0, .int .i64 x1, .int .i64 x2, .int .i64 x3, .int .i64 x4, .int .i64 x5, .int .i64 x6, .int .i64 x7, .int .i64 x8]) (by intro u hu; simp at hu; cases u <;> simp_all [Value.oneCell'])) ?_
      refine hK _ _ (fun h => nomatch (show true = false from h)) ?_
      clear hK K
      try simp only [Act.put]
      refine wpAnyL_done (by kernel_rfl) ?_ _
      replace c := c.trans ((touch_setRow w5 qe #[.int .i64 x0, .int .i64 x1, .int .i64 x2, .int .i64 x3, .int .i64 x4, .int .i64 x5, .int .i64 x6, .int .i64 x7, .int .i64 x8]).below (fun q hq => by rw [List.mem_singleton.1 hq]; exact S.base_le 0 rfl) c.size)
      replace S := S.row 0 rfl #[.int .i64 x0, .int .i64 x1, .int .i64 x2, .int .i64 x3, .int .i64 x4, .int .i64 x5, .int .i64 x6, .int .i64 x7, .int .i64 x8]
      generalize w5.setRow qe #[.int .i64 x0, .int .i64 x1, .int .i64 x2, .int .i64 x3, .int .i64 x4, .int .i64 x5, .int .i64 x6, .int .i64 x7, .int .i64 x8] = w6 at *
      clear HF
      have f0 : w6.cell? ⟨qe, 0, none⟩ = some (.int .i64 x0) := (S.at_ 0 rfl).cell 0
      have f1 : w6.cell? ⟨qe, 1, none⟩ = some (.int .i64 x1) := (S.at_ 0 rfl).cell 1
      have f2 : w6.cell? ⟨qe, 2, none⟩ = some (.int .i64 x2) := (S.at_ 0 rfl).cell 2
      have f3 : w6.cell? ⟨qe, 3, none⟩ = some (.int .i64 x3) := (S.at_ 0 rfl).cell 3
      have f4 : w6.cell? ⟨qe, 4, none⟩ = some (.int .i64 x4) := (S.at_ 0 rfl).cell 4
      have f5 : w6.cell? ⟨qe, 5, none⟩ = some (.int .i64 x5) := (S.at_ 0 rfl).cell 5
      have f6 : w6.cell? ⟨qe, 6, none⟩ = some (.int .i64 x6) := (S.at_ 0 rfl).cell 6
      have f7 : w6.cell? ⟨qe, 7, none⟩ = some (.int .i64 x7) := (S.at_ 0 rfl).cell 7
      have f8 : w6.cell? ⟨qe, 8, none⟩ = some (.int .i64 x8) := (S.at_ 0 rfl).cell 8
      go_wp2_with fail
      refine (sEntryOk_any x0 x1 x2 x3 x4 x5 x6 x7 x8 _).mono ?_
      rintro e w7 ⟨rfl, b2⟩
      replace c := c.trans (b2.mono c.size)
      replace S := S.keep b2
      clear b2 f0 f1 f2 f3 f4 f5 f6 f7 f8
      cases hok : entB ⟨x0, x1, x2, x3, x4, x5, x6, x7, x8⟩
      case false =>
        have HD := Lib.hid (show rowEntM d = (ent0, false) by unfold rowEntM; rw [if_pos HL.out, HO.out, if_neg (by rw [hok]; decide)])
        clear hok
        have f9 : w7.cell? ⟨w.heap.size, 0, none⟩ = some (.int .i64 0) := (S.at_ 2 rfl).cell 0
        have f10 := (S.at_ 2 rfl).free 0
        have f11 : w7.cell? ⟨w.heap.size, 1, none⟩ = some (.int .i64 0) := (S.at_ 2 rfl).cell 1
        have f12 := (S.at_ 2 rfl).free 1
        have f13 : w7.cell? ⟨w.heap.size, 2, none⟩ = some (.int .i64 0) := (S.at_ 2 rfl).cell 2
        have f14 := (S.at_ 2 rfl).free 2
        have f15 : w7.cell? ⟨w.heap.size, 3, none⟩ = some (.int .i64 0) := (S.at_ 2 rfl).cell 3
        have f16 := (S.at_ 2 rfl).free 3
        have f17 : w7.cell? ⟨w.heap.size, 4, none⟩ = some (.int .i64 0) := (S.at_ 2 rfl).cell 4
        have f18 := (S.at_ 2 rfl).free 4
        have f19 : w7.cell? ⟨w.heap.size, 5, none⟩ = some (.int .i64 0) := (S.at_ 2 rfl).cell 5
        have f20 := (S.at_ 2 rfl).free 5
        have f21 : w7.cell? ⟨w.heap.size, 6, none⟩ = some (.int .i64 0) := (S.at_ 2 rfl).cell 6
        have f22 := (S.at_ 2 rfl).free 6
        have f23 : w7.cell? ⟨w.heap.size, 7, none⟩ = some (.int .i64 0) := (S.at_ 2 rfl).cell 7
        have f24 := (S.at_ 2 rfl).free 7
        have f25 : w7.cell? ⟨w.heap.size, 8, none⟩ = some (.int .i64 0) := (S.at_ 2 rfl).cell 8
        have f26 := (S.at_ 2 rfl).free 8
        replace S := S.put 2 rfl 0 (.int .i64 0)
        replace c := c.setCell (p := ⟨w.heap.size, 0, none⟩) (by show w.heap.size ≤ w.heap.size; omega) (.int .i64 0)
        replace S := S.put 2 rfl 1 (.int .i64 0)
        replace c := c.setCell (p := ⟨w.heap.size, 1, none⟩) (by show w.heap.size ≤ w.heap.size; omega) (.int .i64 0)
        replace S := S.put 2 rfl 2 (.int .i64 0)
        replace c := c.setCell (p := ⟨w.heap.size, 2, none⟩) (by show w.heap.size ≤ w.heap.size; omega) (.int .i64 0)
        replace S := S.put 2 rfl 3 (.int .i64 0)
        replace c := c.setCell (p := ⟨w.heap.size, 3, none⟩) (by show w.heap.size ≤ w.heap.size; omega) (.int .i64 0)
        replace S := S.put 2 rfl 4 (.int .i64 0)
        replace c := c.setCell (p := ⟨w.heap.size, 4, none⟩) (by show w.heap.size ≤ w.heap.size; omega) (.int .i64 0)
        replace S := S.put 2 rfl 5 (.int .i64 0)
        replace c := c.setCell (p := ⟨w.heap.size, 5, none⟩) (by show w.heap.size ≤ w.heap.size; omega) (.int .i64 0)
        replace S := S.put 2 rfl 6 (.int .i64 0)
        replace c := c.setCell (p := ⟨w.heap.size, 6, none⟩) (by show w.heap.size ≤ w.heap.size; omega) (.int .i64 0)
        replace S := S.put 2 rfl 7 (.int .i64 0)
        replace c := c.setCell (p := ⟨w.heap.size, 7, none⟩) (by show w.heap.size ≤ w.heap.size; omega) (.int .i64 0)
        replace S := S.put 2 rfl 8 (.int .i64 0)
        replace c := c.setCell (p := ⟨w.heap.size, 8, none⟩) (by show w.heap.size ≤ w.heap.size; omega) (.int .i64 0)
        have r0 := Lib.hid ((S.at_ 2 rfl).cell 0)
        have r1 := Lib.hid ((S.at_ 2 rfl).cell 1)
        have r2 := Lib.hid ((S.at_ 2 rfl).cell 2)
        have r3 := Lib.hid ((S.at_ 2 rfl).cell 3)
        have r4 := Lib.hid ((S.at_ 2 rfl).cell 4)
        have r5 := Lib.hid ((S.at_ 2 rfl).cell 5)
        have r6 := Lib.hid ((S.at_ 2 rfl).cell 6)
        have r7 := Lib.hid ((S.at_ 2 rfl).cell 7)
        have r8 := Lib.hid ((S.at_ 2 rfl).cell 8)
        have C := Lib.hid c
        clear S c
        go_wp2
        exact bodyPost_ret (v := .tuple #[.agg #[.int .i64 0, .int .i64 0, .int .i64 0, .int .i64 0, .int .i64 0, .int .i64 0, .int .i64 0, .int .i64 0, .int .i64 0], .bool false]) (by simp [results, Try.results51, go_sem, r0.out, r1.out, r2.out, r3.out, r4.out, r5.out, r6.out, r7.out, r8.out]) rfl ⟨by first | (rw [HD.out]; done) | (rw [HD.out]; rfl), C.out⟩
      case true =>
        have HD := Lib.hid (show rowEntM d = (⟨x0, x1, x2, x3, x4, x5, x6, x7, x8⟩, true) by unfold rowEntM; rw [if_pos HL.out, HO.out, if_pos hok])
        clear hok
        have f9 : w7.cell? ⟨qe, 0, none⟩ = some (.int .i64 x0) := (S.at_ 0 rfl).cell 0
        have f10 : w7.cell? ⟨qe, 1, none⟩ = some (.int .i64 x1) := (S.at_ 0 rfl).cell 1
        have f11 : w7.cell? ⟨qe, 2, none⟩ = some (.int .i64 x2) := (S.at_ 0 rfl).cell 2
        have f12 : w7.cell? ⟨qe, 3, none⟩ = some (.int .i64 x3) := (S.at_ 0 rfl).cell 3
        have f13 : w7.cell? ⟨qe, 4, none⟩ = some (.int .i64 x4) := (S.at_ 0 rfl).cell 4
        have f14 : w7.cell? ⟨qe, 5, none⟩ = some (.int .i64 x5) := (S.at_ 0 rfl).cell 5
        have f15 : w7.cell? ⟨qe, 6, none⟩ = some (.int .i64 x6) := (S.at_ 0 rfl).cell 6
        have f16 : w7.cell? ⟨qe, 7, none⟩ = some (.int .i64 x7) := (S.at_ 0 rfl).cell 7
        have f17 : w7.cell? ⟨qe, 8, none⟩ = some (.int .i64 x8) := (S.at_ 0 rfl).cell 8
        have f18 : w7.cell? ⟨w.heap.size, 0, none⟩ = some (.int .i64 0) := (S.at_ 2 rfl).cell 0
        have f19 := (S.at_ 2 rfl).free 0
        have f20 : w7.cell? ⟨w.heap.size, 1, none⟩ = some (.int .i64 0) := (S.at_ 2 rfl).cell 1
        have f21 := (S.at_ 2 rfl).free 1
        have f22 : w7.cell? ⟨w.heap.size, 2, none⟩ = some (.int .i64 0) := (S.at_ 2 rfl).cell 2
        have f23 := (S.at_ 2 rfl).free 2
        have f24 : w7.cell? ⟨w.heap.size, 3, none⟩ = some (.int .i64 0) := (S.at_ 2 rfl).cell 3
        have f25 := (S.at_ 2 rfl).free 3
        have f26 : w7.cell? ⟨w.heap.size, 4, none⟩ = some (.int .i64 0) := (S.at_ 2 rfl).cell 4
        have f27 := (S.at_ 2 rfl).free 4
        have f28 : w7.cell? ⟨w.heap.size, 5, none⟩ = some (.int .i64 0) := (S.at_ 2 rfl).cell 5
        have f29 := (S.at_ 2 rfl).free 5
        have f30 : w7.cell? ⟨w.heap.size, 6, none⟩ = some (.int .i64 0) := (S.at_ 2 rfl).cell 6
        have f31 := (S.at_ 2 rfl).free 6
        have f32 : w7.cell? ⟨w.heap.size, 7, none⟩ = some (.int .i64 0) := (S.at_ 2 rfl).cell 7
        have f33 := (S.at_ 2 rfl).free 7
        have f34 : w7.cell? ⟨w.heap.size, 8, none⟩ = some (.int .i64 0) := (S.at_ 2 rfl).cell 8
        have f35 := (S.at_ 2 rfl).free 8
        replace S := S.put 2 rfl 0 (.int .i64 x0)
        replace c := c.setCell (p := ⟨w.heap.size, 0, none⟩) (by show w.heap.size ≤ w.heap.size; omega) (.int .i64 x0)
        replace S := S.put 2 rfl 1 (.int .i64 x1)
        replace c := c.setCell (p := ⟨w.heap.size, 1, none⟩) (by show w.heap.size ≤ w.heap.size; omega) (.int .i64 x1)
        replace S := S.put 2 rfl 2 (.int .i64 x2)
        replace c := c.setCell (p := ⟨w.heap.size, 2, none⟩) (by show w.heap.size ≤ w.heap.size; omega) (.int .i64 x2)
        replace S := S.put 2 rfl 3 (.int .i64 x3)
        replace c := c.setCell (p := ⟨w.heap.size, 3, none⟩) (by show w.heap.size ≤ w.heap.size; omega) (.int .i64 x3)
        replace S := S.put 2 rfl 4 (.int .i64 x4)
        replace c := c.setCell (p := ⟨w.heap.size, 4, none⟩) (by show w.heap.size ≤ w.heap.size; omega) (.int .i64 x4)
        replace S := S.put 2 rfl 5 (.int .i64 x5)
        replace c := c.setCell (p := ⟨w.heap.size, 5, none⟩) (by show w.heap.size ≤ w.heap.size; omega) (.int .i64 x5)
        replace S := S.put 2 rfl 6 (.int .i64 x6)
        replace c := c.setCell (p := ⟨w.heap.size, 6, none⟩) (by show w.heap.size ≤ w.heap.size; omega) (.int .i64 x6)
        replace S := S.put 2 rfl 7 (.int .i64 x7)
        replace c := c.setCell (p := ⟨w.heap.size, 7, none⟩) (by show w.heap.size ≤ w.heap.size; omega) (.int .i64 x7)
        replace S := S.put 2 rfl 8 (.int .i64 x8)
        replace c := c.setCell (p := ⟨w.heap.size, 8, none⟩) (by show w.heap.size ≤ w.heap.size; omega) (.int .i64 x8)
        have r0 := Lib.hid ((S.at_ 2 rfl).cell 0)
        have r1 := Lib.hid ((S.at_ 2 rfl).cell 1)
        have r2 := Lib.hid ((S.at_ 2 rfl).cell 2)
        have r3 := Lib.hid ((S.at_ 2 rfl).cell 3)
        have r4 := Lib.hid ((S.at_ 2 rfl).cell 4)
        have r5 := Lib.hid ((S.at_ 2 rfl).cell 5)
        have r6 := Lib.hid ((S.at_ 2 rfl).cell 6)
        have r7 := Lib.hid ((S.at_ 2 rfl).cell 7)
        have r8 := Lib.hid ((S.at_ 2 rfl).cell 8)
        have C := Lib.hid c
        clear S c
        go_wp2
        exact bodyPost_ret (v := .tuple #[.agg #[.int .i64 x0, .int .i64 x1, .int .i64 x2, .int .i64 x3, .int .i64 x4, .int .i64 x5, .int .i64 x6, .int .i64 x7, .int .i64 x8], .bool true]) (by simp [results, Try.results51, go_sem, r0.out, r1.out, r2.out, r3.out, r4.out, r5.out, r6.out, r7.out, r8.out]) rfl ⟨by first | (rw [HD.out]; done) | (rw [HD.out]; rfl), C.out⟩

end Go.Proofs.Ytafbjmhjjbfaeaa

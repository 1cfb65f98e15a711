/-
  Exact laws, over open contracts: whatever program function meets the model's contract, the law answers true and writes nothing that was there. Made by program (wip/lawgen.py).
-/
import Derived.Test.YtlhmolomefbklaaMark
import Derived.Test.YtlhmolomefbklaaEnt
import Derived.Test.YtlhmolomefbklaaKA
import Derived.Deep.RegionHeld3
namespace Go.Proofs.Ytlhmolomefbklaa
set_option maxRecDepth 100000
open Go.RowKit

set_option maxHeartbeats 12800000 in
theorem lawMarked (f : List MarkM → EntM → (List MarkM) × Bool)
    (hf0 : ∀ (d0 : List MarkM) (e1 : EntM), (mrkSz d0) ≤ 1048576 → (mrkSz ((f d0 e1).1)) ≤ 1048577)
    (hs : ∀ (Aa0_0 : Option Addr) (na0_0 ca0_0 : Nat) (d0 : List MarkM) (xa1_0 : Int) (xa1_1 : Int) (xa1_2 : Int) (xa1_3 : Int) (xa1_4 : Int) (xa1_5 : Int) (xa1_6 : Int) (xa1_7 : Int) (xa1_8 : Int) (w : World), Rd w w.heap.size ([mrkD d0]) [.slice Aa0_0 na0_0 ca0_0] → (mrkSz d0) ≤ 1048576 → Calls Try.prog 20 #[.slice Aa0_0 na0_0 ca0_0, .agg #[.int .i64 xa1_0, .int .i64 xa1_1, .int .i64 xa1_2, .int .i64 xa1_3, .int .i64 xa1_4, .int .i64 xa1_5, .int .i64 xa1_6, .int .i64 xa1_7, .int .i64 xa1_8]] w (fun e w' => ∃ (Ar0_0 : Option Addr) (nr0_0 cr0_0 : Nat), e = .returned (.tuple #[.slice Ar0_0 nr0_0 cr0_0, .bool (f d0 ⟨xa1_0, xa1_1, xa1_2, xa1_3, xa1_4, xa1_5, xa1_6, xa1_7, xa1_8⟩).2]) ∧ Has w' w.heap.size ([mrkD ((f d0 ⟨xa1_0, xa1_1, xa1_2, xa1_3, xa1_4, xa1_5, xa1_6, xa1_7, xa1_8⟩).1)]) [.slice Ar0_0 nr0_0 cr0_0] ∧ Below w.heap.size w w'))
    (hi : ∀ (Aa0_0 : Option Addr) (na0_0 ca0_0 : Nat) (d0 : List MarkM) (xa1_0 : Int) (xa1_1 : Int) (xa1_2 : Int) (xa1_3 : Int) (xa1_4 : Int) (xa1_5 : Int) (xa1_6 : Int) (xa1_7 : Int) (xa1_8 : Int) (w : World), Rd w w.heap.size ([mrkD d0]) [.slice Aa0_0 na0_0 ca0_0] → (mrkSz d0) ≤ 1048576 → Calls Try.prog 22 #[.slice Aa0_0 na0_0 ca0_0, .agg #[.int .i64 xa1_0, .int .i64 xa1_1, .int .i64 xa1_2, .int .i64 xa1_3, .int .i64 xa1_4, .int .i64 xa1_5, .int .i64 xa1_6, .int .i64 xa1_7, .int .i64 xa1_8]] w (fun e w' => ∃ (Ar0_0 : Option Addr) (nr0_0 cr0_0 : Nat), e = .returned (.tuple #[.slice Ar0_0 nr0_0 cr0_0, .bool (f d0 ⟨xa1_0, xa1_1, xa1_2, xa1_3, xa1_4, xa1_5, xa1_6, xa1_7, xa1_8⟩).2]) ∧ Has w' w.heap.size ([mrkD ((f d0 ⟨xa1_0, xa1_1, xa1_2, xa1_3, xa1_4, xa1_5, xa1_6, xa1_7, xa1_8⟩).1)]) [.slice Ar0_0 nr0_0 cr0_0] ∧ Below w.heap.size w w'))
    (Aa0_0 : Option Addr) (na0_0 ca0_0 : Nat) (d0 : List MarkM) (xa1_0 : Int) (xa1_1 : Int) (xa1_2 : Int) (xa1_3 : Int) (xa1_4 : Int) (xa1_5 : Int) (xa1_6 : Int) (xa1_7 : Int) (xa1_8 : Int) (w : World) (h0 : Rd w w.heap.size ([mrkD d0]) [.slice Aa0_0 na0_0 ca0_0]) :
    Calls Try.prog 6 #[.slice Aa0_0 na0_0 ca0_0, .agg #[.int .i64 xa1_0, .int .i64 xa1_1, .int .i64 xa1_2, .int .i64 xa1_3, .int .i64 xa1_4, .int .i64 xa1_5, .int .i64 xa1_6, .int .i64 xa1_7, .int .i64 xa1_8]] w fun e w' => e = .returned (.bool true) ∧ Below w.heap.size w w' := by
  have SP := Lib.hid hs
  have IM := Lib.hid hi
  clear hs hi
  have S := Sep.nil w w.heap.size
  have c := Below.refl w.heap.size w
  replace S := S.box c.size #[.int .i64 xa1_0, .int .i64 xa1_1, .int .i64 xa1_2, .int .i64 xa1_3, .int .i64 xa1_4, .int .i64 xa1_5, .int .i64 xa1_6, .int .i64 xa1_7, .int .i64 xa1_8] 39
  replace c := c.alloc c.size (.cells #[.int .i64 xa1_0, .int .i64 xa1_1, .int .i64 xa1_2, .int .i64 xa1_3, .int .i64 xa1_4, .int .i64 xa1_5, .int .i64 xa1_6, .int .i64 xa1_7, .int .i64 xa1_8] 39)
  go_enter Try.func6, Try.ntmps6
  go_wp2_with fail
  generalize w.alloc (.cells #[.int .i64 xa1_0, .int .i64 xa1_1, .int .i64 xa1_2, .int .i64 xa1_3, .int .i64 xa1_4, .int .i64 xa1_5, .int .i64 xa1_6, .int .i64 xa1_7, .int .i64 xa1_8] 39) = w1 at *
  refine (szMarkS_any _ _ _ d0 _ _ _ (h0.keep c) c.size (by omega) (by omega)).mono ?_
  rintro e w2 ⟨rfl, b⟩
  replace c := c.trans (b.mono c.size)
  replace S := S.keep b
  clear b
  by_cases hzi0 : (((mrkSz d0) : Nat) : Int) ≤ 1048576
  case neg =>
    rw [left, if_neg hzi0]
    go_wp2
    go_ret
    exact ⟨rfl, c⟩
  rw [left, if_pos hzi0]
  have hz0 : (mrkSz d0) ≤ 1048576 := by omega
  have qz0 : ¬ ((1048576 : Int) - ((mrkSz d0) : Int) < 0) := by omega
  obtain ⟨fx0, hfx0⟩ : ∃ q, q = (f d0 ⟨xa1_0, xa1_1, xa1_2, xa1_3, xa1_4, xa1_5, xa1_6, xa1_7, xa1_8⟩).1 := ⟨_, rfl⟩
  have hfz0 := hf0 d0 ⟨xa1_0, xa1_1, xa1_2, xa1_3, xa1_4, xa1_5, xa1_6, xa1_7, xa1_8⟩ hz0
  rw [← hfx0] at hfz0
  have HFX0 := Lib.hid hfx0
  clear hfx0
  obtain ⟨fx1, hfx1⟩ : ∃ q, q = (f d0 ⟨xa1_0, xa1_1, xa1_2, xa1_3, xa1_4, xa1_5, xa1_6, xa1_7, xa1_8⟩).2 := ⟨_, rfl⟩
  have HFX1 := Lib.hid hfx1
  clear hfx1
  go_wp2_with fail
  refine wp_region_L (fun v => v.cell? ⟨w.heap.size, 0, none⟩ = some (.int .i64 xa1_0) ∧ v.cell? ⟨w.heap.size, 1, none⟩ = some (.int .i64 xa1_1) ∧ v.cell? ⟨w.heap.size, 2, none⟩ = some (.int .i64 xa1_2) ∧ v.cell? ⟨w.heap.size, 3, none⟩ = some (.int .i64 xa1_3) ∧ v.cell? ⟨w.heap.size, 4, none⟩ = some (.int .i64 xa1_4) ∧ v.cell? ⟨w.heap.size, 5, none⟩ = some (.int .i64 xa1_5) ∧ v.cell? ⟨w.heap.size, 6, none⟩ = some (.int .i64 xa1_6) ∧ v.cell? ⟨w.heap.size, 7, none⟩ = some (.int .i64 xa1_7) ∧ v.cell? ⟨w.heap.size, 8, none⟩ = some (.int .i64 xa1_8)) 9 (by kernel_rfl) ?_
  replace S := S.keep ((Below.refl _ _).drew)
  replace c := c.drew
  generalize w2.drew = w53 at *
  have HF : w53.cell? ⟨w.heap.size, 0, none⟩ = some (.int .i64 xa1_0) ∧ w53.cell? ⟨w.heap.size, 1, none⟩ = some (.int .i64 xa1_1) ∧ w53.cell? ⟨w.heap.size, 2, none⟩ = some (.int .i64 xa1_2) ∧ w53.cell? ⟨w.heap.size, 3, none⟩ = some (.int .i64 xa1_3) ∧ w53.cell? ⟨w.heap.size, 4, none⟩ = some (.int .i64 xa1_4) ∧ w53.cell? ⟨w.heap.size, 5, none⟩ = some (.int .i64 xa1_5) ∧ w53.cell? ⟨w.heap.size, 6, none⟩ = some (.int .i64 xa1_6) ∧ w53.cell? ⟨w.heap.size, 7, none⟩ = some (.int .i64 xa1_7) ∧ w53.cell? ⟨w.heap.size, 8, none⟩ = some (.int .i64 xa1_8) := ⟨(S.at_ 0 rfl).cell 0, (S.at_ 0 rfl).cell 1, (S.at_ 0 rfl).cell 2, (S.at_ 0 rfl).cell 3, (S.at_ 0 rfl).cell 4, (S.at_ 0 rfl).cell 5, (S.at_ 0 rfl).cell 6, (S.at_ 0 rfl).cell 7, (S.at_ 0 rfl).cell 8⟩
  refine wpAnyL_take (i := 0) (v := ?_) rfl rfl (by kernel_rfl) (by kernel_rfl) (by kernel_rfl) (by kernel_rfl) (by kernel_rfl) (fun _ _ _ h => h) HF (Or.inl ⟨by rfl, ?_⟩) ?_
  rotate_left 1
  · (rintro v ⟨a0, a1, a2, a3, a4, a5, a6, a7, a8⟩; go_simp; try with_reducible rfl)
  try simp only [Act.put]
  refine wpAnyL_take (i := 2) (v := ?_) rfl rfl (by kernel_rfl) (by kernel_rfl) (by kernel_rfl) (by kernel_rfl) (by kernel_rfl) (fun _ _ _ h => h) HF (Or.inl ⟨by rfl, ?_⟩) ?_
  rotate_left 1
  · (rintro v ⟨a0, a1, a2, a3, a4, a5, a6, a7, a8⟩; go_simp; try with_reducible rfl)
  try simp only [Act.put]
  refine wpAnyL_step (i := 1) (by kernel_rfl) rfl rfl ?_
  intro K hK
  go_simp
  refine (toMarkS_made _ _ _ d0 _ ((h0.keep c).up c.size) hz0).mono ?_
  rintro e w54 ⟨As0_0, ns0_0, cs0_0, rfl, o, b⟩
  obtain ⟨fp_Os0, S'⟩ := S.has b o c.size
  replace c := c.trans (b.mono c.size)
  clear S; have S := S'; clear S' o b
  clear HF
  have HF : w54.cell? ⟨w.heap.size, 0, none⟩ = some (.int .i64 xa1_0) ∧ w54.cell? ⟨w.heap.size, 1, none⟩ = some (.int .i64 xa1_1) ∧ w54.cell? ⟨w.heap.size, 2, none⟩ = some (.int .i64 xa1_2) ∧ w54.cell? ⟨w.heap.size, 3, none⟩ = some (.int .i64 xa1_3) ∧ w54.cell? ⟨w.heap.size, 4, none⟩ = some (.int .i64 xa1_4) ∧ w54.cell? ⟨w.heap.size, 5, none⟩ = some (.int .i64 xa1_5) ∧ w54.cell? ⟨w.heap.size, 6, none⟩ = some (.int .i64 xa1_6) ∧ w54.cell? ⟨w.heap.size, 7, none⟩ = some (.int .i64 xa1_7) ∧ w54.cell? ⟨w.heap.size, 8, none⟩ = some (.int .i64 xa1_8) := ⟨(S.at_ 1 rfl).cell 0, (S.at_ 1 rfl).cell 1, (S.at_ 1 rfl).cell 2, (S.at_ 1 rfl).cell 3, (S.at_ 1 rfl).cell 4, (S.at_ 1 rfl).cell 5, (S.at_ 1 rfl).cell 6, (S.at_ 1 rfl).cell 7, (S.at_ 1 rfl).cell 8⟩
  refine hK _ _ (fun _ => HF) ?_
  clear hK K
  try simp only [Act.put]
  refine wpAnyL_step (i := 3) (by kernel_rfl) rfl rfl ?_
  intro K hK
  go_simp
  refine (toEntry_any _ _ _ _ _ _ _ _ _ _).mono ?_
  rintro e w55 ⟨rfl, b⟩
  replace c := c.trans (b.mono c.size)
  replace S := S.keep b
  clear b
  clear HF
  have HF : w55.cell? ⟨w.heap.size, 0, none⟩ = some (.int .i64 xa1_0) ∧ w55.cell? ⟨w.heap.size, 1, none⟩ = some (.int .i64 xa1_1) ∧ w55.cell? ⟨w.heap.size, 2, none⟩ = some (.int .i64 xa1_2) ∧ w55.cell? ⟨w.heap.size, 3, none⟩ = some (.int .i64 xa1_3) ∧ w55.cell? ⟨w.heap.size, 4, none⟩ = some (.int .i64 xa1_4) ∧ w55.cell? ⟨w.heap.size, 5, none⟩ = some (.int .i64 xa1_5) ∧ w55.cell? ⟨w.heap.size, 6, none⟩ = some (.int .i64 xa1_6) ∧ w55.cell? ⟨w.heap.size, 7, none⟩ = some (.int .i64 xa1_7) ∧ w55.cell? ⟨w.heap.size, 8, none⟩ = some (.int .i64 xa1_8) := ⟨(S.at_ 1 rfl).cell 0, (S.at_ 1 rfl).cell 1, (S.at_ 1 rfl).cell 2, (S.at_ 1 rfl).cell 3, (S.at_ 1 rfl).cell 4, (S.at_ 1 rfl).cell 5, (S.at_ 1 rfl).cell 6, (S.at_ 1 rfl).cell 7, (S.at_ 1 rfl).cell 8⟩
  refine hK _ _ (fun _ => HF) ?_
  clear hK K
  try simp only [Act.put]
  refine wpAnyL_step (i := 4) (by kernel_rfl) rfl rfl ?_
  intro K hK
  go_simp
  refine (SP.out _ _ _ d0 _ _ _ _ _ _ _ _ _ _ ((S.own_ 0 rfl).rd) hz0).mono ?_
  rintro e w56 ⟨Aw0_0, nw0_0, cw0_0, rfl, o, b⟩
  obtain ⟨fp_Ow0, S'⟩ := S.has b o c.size
  replace c := c.trans (b.mono c.size)
  clear S; have S := S'; clear S' o b
  clear HF
  have HF : w56.cell? ⟨w.heap.size, 0, none⟩ = some (.int .i64 xa1_0) ∧ w56.cell? ⟨w.heap.size, 1, none⟩ = some (.int .i64 xa1_1) ∧ w56.cell? ⟨w.heap.size, 2, none⟩ = some (.int .i64 xa1_2) ∧ w56.cell? ⟨w.heap.size, 3, none⟩ = some (.int .i64 xa1_3) ∧ w56.cell? ⟨w.heap.size, 4, none⟩ = some (.int .i64 xa1_4) ∧ w56.cell? ⟨w.heap.size, 5, none⟩ = some (.int .i64 xa1_5) ∧ w56.cell? ⟨w.heap.size, 6, none⟩ = some (.int .i64 xa1_6) ∧ w56.cell? ⟨w.heap.size, 7, none⟩ = some (.int .i64 xa1_7) ∧ w56.cell? ⟨w.heap.size, 8, none⟩ = some (.int .i64 xa1_8) := ⟨(S.at_ 2 rfl).cell 0, (S.at_ 2 rfl).cell 1, (S.at_ 2 rfl).cell 2, (S.at_ 2 rfl).cell 3, (S.at_ 2 rfl).cell 4, (S.at_ 2 rfl).cell 5, (S.at_ 2 rfl).cell 6, (S.at_ 2 rfl).cell 7, (S.at_ 2 rfl).cell 8⟩
  refine hK _ _ (fun _ => HF) ?_
  clear hK K
  try simp only [Act.put]
  refine wpAnyL_pure (i := 5) (v := ?_) rfl rfl (by kernel_rfl) (by kernel_rfl) (by kernel_rfl) (fun _ _ _ h => h) HF (Or.inl ⟨by rfl, ?_⟩) ?_
  rotate_left 1
  · (intro v _; go_simp; try with_reducible rfl)
  try simp only [Act.put]
  refine wpAnyL_pure (i := 6) (v := ?_) rfl rfl (by kernel_rfl) (by kernel_rfl) (by kernel_rfl) (fun _ _ _ h => h) HF (Or.inl ⟨by rfl, ?_⟩) ?_
  rotate_left 1
  · (intro v _; go_simp; try with_reducible rfl)
  try simp only [Act.put]
  refine wpAnyL_pure (i := 7) (v := ?_) rfl rfl (by kernel_rfl) (by kernel_rfl) (by kernel_rfl) (fun _ _ _ h => h) HF (Or.inl ⟨by rfl, ?_⟩) ?_
  rotate_left 1
  · (intro v _; go_simp; try with_reducible rfl)
  try simp only [Act.put]
  refine wpAnyL_pure (i := 8) (v := ?_) rfl rfl (by kernel_rfl) (by kernel_rfl) (by kernel_rfl) (fun _ _ _ h => h) HF (Or.inl ⟨by rfl, ?_⟩) ?_
  rotate_left 1
  · (intro v _; go_simp; try with_reducible rfl)
  try simp only [Act.put]
  refine wpAnyL_step (i := 9) (by kernel_rfl) rfl rfl ?_
  intro K hK
  go_simp
  refine hK _ _ (fun h => nomatch (show true = false from h)) ?_
  clear hK K
  try simp only [Act.put]
  refine wpAnyL_done (by kernel_rfl) ?_ _
  clear HF
  generalize w56 = w3 at *
  rw [← HFX0.out] at S
  rw [← HFX1.out]
  go_wp2_with fail
  refine (toMarkS_made _ _ _ d0 _ ((h0.keep c).up c.size) hz0).mono ?_
  rintro e w4 ⟨Ax0_0, nx0_0, cx0_0, rfl, o, b⟩
  obtain ⟨fp_x0, S'⟩ := S.has b o c.size
  replace c := c.trans (b.mono c.size)
  clear S; have S := S'; clear S' o b
  have f0 : (w4).cell? ⟨w.heap.size, 0, none⟩ = some (.int .i64 xa1_0) := (S.at_ 3 rfl).cell 0
  have f1 : (w4).cell? ⟨w.heap.size, 1, none⟩ = some (.int .i64 xa1_1) := (S.at_ 3 rfl).cell 1
  have f2 : (w4).cell? ⟨w.heap.size, 2, none⟩ = some (.int .i64 xa1_2) := (S.at_ 3 rfl).cell 2
  have f3 : (w4).cell? ⟨w.heap.size, 3, none⟩ = some (.int .i64 xa1_3) := (S.at_ 3 rfl).cell 3
  have f4 : (w4).cell? ⟨w.heap.size, 4, none⟩ = some (.int .i64 xa1_4) := (S.at_ 3 rfl).cell 4
  have f5 : (w4).cell? ⟨w.heap.size, 5, none⟩ = some (.int .i64 xa1_5) := (S.at_ 3 rfl).cell 5
  have f6 : (w4).cell? ⟨w.heap.size, 6, none⟩ = some (.int .i64 xa1_6) := (S.at_ 3 rfl).cell 6
  have f7 : (w4).cell? ⟨w.heap.size, 7, none⟩ = some (.int .i64 xa1_7) := (S.at_ 3 rfl).cell 7
  have f8 : (w4).cell? ⟨w.heap.size, 8, none⟩ = some (.int .i64 xa1_8) := (S.at_ 3 rfl).cell 8
  go_wp2_with fail
  refine (toEntry_any _ _ _ _ _ _ _ _ _ _).mono ?_
  rintro e w5 ⟨rfl, b⟩
  replace c := c.trans (b.mono c.size)
  replace S := S.keep b
  clear b f0 f1 f2 f3 f4 f5 f6 f7 f8
  go_wp2_with fail
  refine (IM.out _ _ _ d0 _ _ _ _ _ _ _ _ _ _ ((S.own_ 0 rfl).rd) hz0).mono ?_
  rintro e w6 ⟨Ag0_0, ng0_0, cg0_0, rfl, o, b⟩
  obtain ⟨fp_g0, S'⟩ := S.has b o c.size
  replace c := c.trans (b.mono c.size)
  clear S; have S := S'; clear S' o b
  rw [← HFX0.out] at S
  rw [← HFX1.out]
  go_wp2_with fail
  refine (eqMarkS_yes _ _ _ _ _ _ _ _ fx0 _ ((S.own_ 0 rfl).rd) ((S.own_ 2 rfl).rd) (Nat.le_refl _) (Nat.le_refl _) hfz0).mono ?_
  rintro e w7 ⟨rfl, b⟩
  replace c := c.trans (b.mono c.size)
  replace S := S.keep b
  clear b
  go_wp2_with fail
  refine (toMarkS_made _ _ _ d0 _ ((h0.keep c).up c.size) hz0).mono ?_
  rintro e w8 ⟨Az0_0, nz0_0, cz0_0, rfl, o, b⟩
  obtain ⟨fp_z0, S'⟩ := S.has b o c.size
  replace c := c.trans (b.mono c.size)
  clear S; have S := S'; clear S' o b
  go_wp2_with fail
  refine (eqMarkS_yes _ _ _ _ _ _ _ _ d0 _ ((S.own_ 2 rfl).rd) ((S.own_ 0 rfl).rd) (Nat.le_refl _) (Nat.le_refl _) (by omega)).mono ?_
  rintro e w9 ⟨rfl, b⟩
  replace c := c.trans (b.mono c.size)
  replace S := S.keep b
  clear b
  go_wp2_with fail
  refine (markMarkS_any _ _ _ d0 _ _ (S.own_ 2 rfl) (S.nodup_own 2 rfl) (by omega) (1) (by omega) (by omega)).mono ?_
  rintro e w10 ⟨m0, rfl, o, t, mk_x0, en_x0, es_x0⟩
  have b := S.below 2 rfl t c.size
  have S' := S.mark 2 rfl t o
  replace c := c.trans b
  clear S; have S := S'; clear S' o t b
  have nb0 : (mrkN d0) ≤ 9437193 := by
    first | omega | exact mrkN_b _ (by omega)
  have qk : ¬ (1 + ((mrkN d0) : Int) < 0) := by omega
  go_wp2_with fail
  refine (eqMarkS_yes _ _ _ _ _ _ _ _ fx0 _ ((S.own_ 1 rfl).rd) ((S.own_ 3 rfl).rd) (Nat.le_refl _) (Nat.le_refl _) hfz0).mono ?_
  rintro e w11 ⟨rfl, b⟩
  replace c := c.trans (b.mono c.size)
  replace S := S.keep b
  clear b
  have nr0 : (mrkN fx0) ≤ 9437193 := by
    first | omega | exact mrkN_b _ (by omega)
  go_wp2_with fail
  refine (markMarkS_any _ _ _ fx0 _ _ (S.own_ 1 rfl) (S.nodup_own 1 rfl) hfz0 (1) (by omega) (by omega)).mono ?_
  rintro e w12 ⟨e0, rfl, o, t, mk_g0, en_g0, es_g0⟩
  have b := S.below 1 rfl t c.size
  have S' := S.mark 1 rfl t o
  replace c := c.trans b
  clear S; have S := S'; clear S' o t b
  go_wp2_with fail
  refine (heldMarkS_any _ _ _ e0 _ _ ((S.own_ 1 rfl).rd) (Nat.le_refl _) (by omega) (1) (by omega) (by omega) mk_g0).mono ?_
  rintro e w13 ⟨rfl, b⟩
  rw [en_g0]
  have q13 : ¬ (1 + ((mrkN fx0) : Int) < 0) := by omega
  replace c := c.trans (b.mono c.size)
  replace S := S.keep b
  clear b
  go_wp2_with fail
  refine wp_region_L (fun v => v.cell? ⟨w.heap.size, 0, none⟩ = some (.int .i64 xa1_0) ∧ v.cell? ⟨w.heap.size, 1, none⟩ = some (.int .i64 xa1_1) ∧ v.cell? ⟨w.heap.size, 2, none⟩ = some (.int .i64 xa1_2) ∧ v.cell? ⟨w.heap.size, 3, none⟩ = some (.int .i64 xa1_3) ∧ v.cell? ⟨w.heap.size, 4, none⟩ = some (.int .i64 xa1_4) ∧ v.cell? ⟨w.heap.size, 5, none⟩ = some (.int .i64 xa1_5) ∧ v.cell? ⟨w.heap.size, 6, none⟩ = some (.int .i64 xa1_6) ∧ v.cell? ⟨w.heap.size, 7, none⟩ = some (.int .i64 xa1_7) ∧ v.cell? ⟨w.heap.size, 8, none⟩ = some (.int .i64 xa1_8)) 9 (by kernel_rfl) ?_
  replace S := S.keep ((Below.refl _ _).drew)
  replace c := c.drew
  generalize w13.drew = w64 at *
  have HF : w64.cell? ⟨w.heap.size, 0, none⟩ = some (.int .i64 xa1_0) ∧ w64.cell? ⟨w.heap.size, 1, none⟩ = some (.int .i64 xa1_1) ∧ w64.cell? ⟨w.heap.size, 2, none⟩ = some (.int .i64 xa1_2) ∧ w64.cell? ⟨w.heap.size, 3, none⟩ = some (.int .i64 xa1_3) ∧ w64.cell? ⟨w.heap.size, 4, none⟩ = some (.int .i64 xa1_4) ∧ w64.cell? ⟨w.heap.size, 5, none⟩ = some (.int .i64 xa1_5) ∧ w64.cell? ⟨w.heap.size, 6, none⟩ = some (.int .i64 xa1_6) ∧ w64.cell? ⟨w.heap.size, 7, none⟩ = some (.int .i64 xa1_7) ∧ w64.cell? ⟨w.heap.size, 8, none⟩ = some (.int .i64 xa1_8) := ⟨(S.at_ 5 rfl).cell 0, (S.at_ 5 rfl).cell 1, (S.at_ 5 rfl).cell 2, (S.at_ 5 rfl).cell 3, (S.at_ 5 rfl).cell 4, (S.at_ 5 rfl).cell 5, (S.at_ 5 rfl).cell 6, (S.at_ 5 rfl).cell 7, (S.at_ 5 rfl).cell 8⟩
  refine wpAnyL_take (i := 0) (v := ?_) rfl rfl (by kernel_rfl) (by kernel_rfl) (by kernel_rfl) (by kernel_rfl) (by kernel_rfl) (fun _ _ _ h => h) HF (Or.inl ⟨by rfl, ?_⟩) ?_
  rotate_left 1
  · (rintro v ⟨a0, a1, a2, a3, a4, a5, a6, a7, a8⟩; go_simp; try with_reducible rfl)
  try simp only [Act.put]
  refine wpAnyL_take (i := 2) (v := ?_) rfl rfl (by kernel_rfl) (by kernel_rfl) (by kernel_rfl) (by kernel_rfl) (by kernel_rfl) (fun _ _ _ h => h) HF (Or.inl ⟨by rfl, ?_⟩) ?_
  rotate_left 1
  · (rintro v ⟨a0, a1, a2, a3, a4, a5, a6, a7, a8⟩; go_simp; try with_reducible rfl)
  try simp only [Act.put]
  refine wpAnyL_step (i := 1) (by kernel_rfl) rfl rfl ?_
  intro K hK
  go_simp
  refine (toMarkS_made _ _ _ d0 _ ((h0.keep c).up c.size) hz0).mono ?_
  rintro e w65 ⟨At0_0, nt0_0, ct0_0, rfl, o, b⟩
  obtain ⟨fp_Ot0, S'⟩ := S.has b o c.size
  replace c := c.trans (b.mono c.size)
  clear S; have S := S'; clear S' o b
  clear HF
  have HF : w65.cell? ⟨w.heap.size, 0, none⟩ = some (.int .i64 xa1_0) ∧ w65.cell? ⟨w.heap.size, 1, none⟩ = some (.int .i64 xa1_1) ∧ w65.cell? ⟨w.heap.size, 2, none⟩ = some (.int .i64 xa1_2) ∧ w65.cell? ⟨w.heap.size, 3, none⟩ = some (.int .i64 xa1_3) ∧ w65.cell? ⟨w.heap.size, 4, none⟩ = some (.int .i64 xa1_4) ∧ w65.cell? ⟨w.heap.size, 5, none⟩ = some (.int .i64 xa1_5) ∧ w65.cell? ⟨w.heap.size, 6, none⟩ = some (.int .i64 xa1_6) ∧ w65.cell? ⟨w.heap.size, 7, none⟩ = some (.int .i64 xa1_7) ∧ w65.cell? ⟨w.heap.size, 8, none⟩ = some (.int .i64 xa1_8) := ⟨(S.at_ 6 rfl).cell 0, (S.at_ 6 rfl).cell 1, (S.at_ 6 rfl).cell 2, (S.at_ 6 rfl).cell 3, (S.at_ 6 rfl).cell 4, (S.at_ 6 rfl).cell 5, (S.at_ 6 rfl).cell 6, (S.at_ 6 rfl).cell 7, (S.at_ 6 rfl).cell 8⟩
  refine hK _ _ (fun _ => HF) ?_
  clear hK K
  try simp only [Act.put]
  refine wpAnyL_step (i := 3) (by kernel_rfl) rfl rfl ?_
  intro K hK
  go_simp
  refine (toEntry_any _ _ _ _ _ _ _ _ _ _).mono ?_
  rintro e w66 ⟨rfl, b⟩
  replace c := c.trans (b.mono c.size)
  replace S := S.keep b
  clear b
  clear HF
  have HF : w66.cell? ⟨w.heap.size, 0, none⟩ = some (.int .i64 xa1_0) ∧ w66.cell? ⟨w.heap.size, 1, none⟩ = some (.int .i64 xa1_1) ∧ w66.cell? ⟨w.heap.size, 2, none⟩ = some (.int .i64 xa1_2) ∧ w66.cell? ⟨w.heap.size, 3, none⟩ = some (.int .i64 xa1_3) ∧ w66.cell? ⟨w.heap.size, 4, none⟩ = some (.int .i64 xa1_4) ∧ w66.cell? ⟨w.heap.size, 5, none⟩ = some (.int .i64 xa1_5) ∧ w66.cell? ⟨w.heap.size, 6, none⟩ = some (.int .i64 xa1_6) ∧ w66.cell? ⟨w.heap.size, 7, none⟩ = some (.int .i64 xa1_7) ∧ w66.cell? ⟨w.heap.size, 8, none⟩ = some (.int .i64 xa1_8) := ⟨(S.at_ 6 rfl).cell 0, (S.at_ 6 rfl).cell 1, (S.at_ 6 rfl).cell 2, (S.at_ 6 rfl).cell 3, (S.at_ 6 rfl).cell 4, (S.at_ 6 rfl).cell 5, (S.at_ 6 rfl).cell 6, (S.at_ 6 rfl).cell 7, (S.at_ 6 rfl).cell 8⟩
  refine hK _ _ (fun _ => HF) ?_
  clear hK K
  try simp only [Act.put]
  refine wpAnyL_step (i := 4) (by kernel_rfl) rfl rfl ?_
  intro K hK
  go_simp
  refine (IM.out _ _ _ d0 _ _ _ _ _ _ _ _ _ _ ((S.own_ 0 rfl).rd) hz0).mono ?_
  rintro e w67 ⟨Ah0_0, nh0_0, ch0_0, rfl, o, b⟩
  obtain ⟨fp_Oh0, S'⟩ := S.has b o c.size
  replace c := c.trans (b.mono c.size)
  clear S; have S := S'; clear S' o b
  clear HF
  have HF : w67.cell? ⟨w.heap.size, 0, none⟩ = some (.int .i64 xa1_0) ∧ w67.cell? ⟨w.heap.size, 1, none⟩ = some (.int .i64 xa1_1) ∧ w67.cell? ⟨w.heap.size, 2, none⟩ = some (.int .i64 xa1_2) ∧ w67.cell? ⟨w.heap.size, 3, none⟩ = some (.int .i64 xa1_3) ∧ w67.cell? ⟨w.heap.size, 4, none⟩ = some (.int .i64 xa1_4) ∧ w67.cell? ⟨w.heap.size, 5, none⟩ = some (.int .i64 xa1_5) ∧ w67.cell? ⟨w.heap.size, 6, none⟩ = some (.int .i64 xa1_6) ∧ w67.cell? ⟨w.heap.size, 7, none⟩ = some (.int .i64 xa1_7) ∧ w67.cell? ⟨w.heap.size, 8, none⟩ = some (.int .i64 xa1_8) := ⟨(S.at_ 7 rfl).cell 0, (S.at_ 7 rfl).cell 1, (S.at_ 7 rfl).cell 2, (S.at_ 7 rfl).cell 3, (S.at_ 7 rfl).cell 4, (S.at_ 7 rfl).cell 5, (S.at_ 7 rfl).cell 6, (S.at_ 7 rfl).cell 7, (S.at_ 7 rfl).cell 8⟩
  refine hK _ _ (fun _ => HF) ?_
  clear hK K
  try simp only [Act.put]
  refine wpAnyL_pure (i := 5) (v := ?_) rfl rfl (by kernel_rfl) (by kernel_rfl) (by kernel_rfl) (fun _ _ _ h => h) HF (Or.inl ⟨by rfl, ?_⟩) ?_
  rotate_left 1
  · (intro v _; go_simp; try with_reducible rfl)
  try simp only [Act.put]
  refine wpAnyL_pure (i := 6) (v := ?_) rfl rfl (by kernel_rfl) (by kernel_rfl) (by kernel_rfl) (fun _ _ _ h => h) HF (Or.inl ⟨by rfl, ?_⟩) ?_
  rotate_left 1
  · (intro v _; go_simp; try with_reducible rfl)
  try simp only [Act.put]
  refine wpAnyL_pure (i := 7) (v := ?_) rfl rfl (by kernel_rfl) (by kernel_rfl) (by kernel_rfl) (fun _ _ _ h => h) HF (Or.inl ⟨by rfl, ?_⟩) ?_
  rotate_left 1
  · (intro v _; go_simp; try with_reducible rfl)
  try simp only [Act.put]
  refine wpAnyL_pure (i := 8) (v := ?_) rfl rfl (by kernel_rfl) (by kernel_rfl) (by kernel_rfl) (fun _ _ _ h => h) HF (Or.inl ⟨by rfl, ?_⟩) ?_
  rotate_left 1
  · (intro v _; go_simp; try with_reducible rfl)
  try simp only [Act.put]
  refine wpAnyL_step (i := 9) (by kernel_rfl) rfl rfl ?_
  intro K hK
  go_simp
  refine hK _ _ (fun h => nomatch (show true = false from h)) ?_
  clear hK K
  try simp only [Act.put]
  refine wpAnyL_done (by kernel_rfl) ?_ _
  clear HF
  generalize w67 = w14 at *
  rw [← HFX0.out] at S
  rw [← HFX1.out]
  go_wp2_with fail
  refine (eqMarkS_yes _ _ _ _ _ _ _ _ fx0 _ ((S.own_ 0 rfl).rd) ((S.own_ 5 rfl).rd) (Nat.le_refl _) (Nat.le_refl _) hfz0).mono ?_
  rintro e w15 ⟨rfl, b⟩
  replace c := c.trans (b.mono c.size)
  replace S := S.keep b
  clear b
  go_wp2_with fail
  refine (heldMarkS_any _ _ _ e0 _ _ ((S.own_ 3 rfl).rd) (Nat.le_refl _) (by omega) (1) (by omega) (by omega) mk_g0).mono ?_
  rintro e w16 ⟨rfl, b⟩
  rw [en_g0]
  have q16 : ¬ (1 + ((mrkN fx0) : Int) < 0) := by omega
  replace c := c.trans (b.mono c.size)
  replace S := S.keep b
  clear b
  go_wp2
  go_ret
  exact ⟨rfl, c⟩

end Go.Proofs.Ytlhmolomefbklaa

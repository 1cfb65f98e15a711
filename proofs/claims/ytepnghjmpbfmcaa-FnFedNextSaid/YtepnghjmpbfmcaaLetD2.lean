/-
  A feed drawn by the laws: its numbers, and its entries as a part of a drawn list of eight (by program, wip/gen/genletd2.py).
-/
import Derived.Test.YtepnghjmpbfmcaaEntD2
import Derived.Test.YtepnghjmpbfmcaaBookU
import Derived.Test.YtepnghjmpbfmcaaLetF
import Derived.RegionTactic
import Derived.BigQuiet
namespace Go.Proofs.Ytepnghjmpbfmcaa
set_option maxRecDepth 100000
open Go.RowKit

set_option maxHeartbeats 6400000 in
theorem w9feed_any (B p : Nat) (w : World) (h : LCur w B p) :
    Calls Try.prog 31 #[.pointer (some ⟨p, 0, none⟩)] w (fun e w' => ∃ (l : List EntM) (A : Option Addr) (n c k m : Nat) (x0 x1 : Int) (A2 : Option Addr), l.length = 8 ∧ RunL l ∧ k ≤ 4 ∧ k ≤ m ∧ m ≤ k + 3 ∧ (0 ≤ x0 ∧ x0 ≤ (k : Int)) ∧ (0 ≤ x1 ∧ x1 ≤ 2) ∧
      e = .returned (.agg #[.int .i64 x0, .int .i64 ((m : Int) + x1), .slice A2 (m - k) (c - k)]) ∧ LCur w' B p ∧ w.grownBy w' (some p) ∧ Has w' w.heap.size [entD l] [.slice A n c] ∧
      (∀ {v : World} {B : Nat}, Rd v B [entD l] [.slice A n c] → Rd v B [entD ((l.drop k).take (m - k))] [.slice A2 (m - k) (c - k)])) := by
  have X := DrL.start h
  clear h
  replace X := X.boxAt (w.heap.size) rfl #[.int .i64 0, .int .i64 0, .slice none 0 0] 56
  replace X := X.boxAt (w.heap.size + 1) (by simp) #[] 83
  go_enter Try.func31, Try.ntmps31
  go_wp2_with fail
  generalize (w.alloc (.cells #[.int .i64 0, .int .i64 0, .slice none 0 0] 56)).alloc (.cells #[] 83) = w1 at *
  refine (w9list_any _ _ 8 (by decide) _ _ _ X.cur).mono ?_
  rintro e w2 ⟨l, A, n, c, hl, hrun, rfl, cu, gr, o⟩
  obtain ⟨fp_l, X'⟩ := X.drawHas cu gr o
  clear X; have X := X'; clear X' cu gr o
  replace X := X.with_ (X.sep.sub (.cons_cons _ (.cons _ (.cons_cons _ (List.nil_sublist _)))))
  have HRUN := Lib.hid hrun
  have HL := Lib.hid hl
  have hn8 : n = 8 := by
    obtain ⟨_, _, _, e, h9, _, _⟩ := (X.sep.own_ 0 rfl).rd.ents
    injection e with e1 e2 e3
    omega
  have HN8 := Lib.hid hn8
  clear hrun hl hn8
  go_wp2_with fail
  refine (lbelow_any _ _ _ X.cur 5 (by decide)).mono ?_
  rintro e w3 ⟨z0, hz0, rfl, cu, gr⟩
  replace X := X.draw cu gr
  clear cu gr
  obtain ⟨k, rfl⟩ : ∃ k : Nat, z0 = (k : Int) := ⟨z0.toNat, by omega⟩
  have hk : k ≤ 4 := by omega
  clear hz0
  go_wp2_with fail
  refine (lbelow_any _ _ _ X.cur 4 (by decide)).mono ?_
  rintro e w4 ⟨z1, hz1, rfl, cu, gr⟩
  replace X := X.draw cu gr
  clear cu gr
  obtain ⟨m, hm⟩ : ∃ m : Nat, (k : Int) + z1 = (m : Int) := ⟨((k : Int) + z1).toNat, by omega⟩
  have hkm : k ≤ m := by omega
  have hm8 : m ≤ 8 := by omega
  have hm3 : m ≤ k + 3 := by omega
  have hw : IntKind.i64.wrap ((k : Int) + z1) = (m : Int) := by rw [IntKind.wrap_i64]; omega
  clear hm hz1
  obtain ⟨A2, hsl, hrd⟩ := slice_mid (X.sep.own_ 0 rfl) hkm (by have := HN8.out; omega)
  have hk1 : IntKind.i64.wrap ((k : Int) + 1) = (k : Int) + 1 := by rw [IntKind.wrap_i64]; omega
  go_wp2_with fail
  refine wp_region_L (fun v => v.cell? ⟨w.heap.size, 0, none⟩ = some (.int .i64 0)) 13 (by kernel_rfl) ?_
  replace X := X.drew
  generalize w4.drew = w5 at *
  have HF : w5.cell? ⟨w.heap.size, 0, none⟩ = some (.int .i64 0) := (X.sep.at_ 1 rfl).cell 0
  refine wpAnyL_take (i := 0) (v := ?_) rfl rfl (by kernel_rfl) (by kernel_rfl) (by kernel_rfl) (by kernel_rfl) (by kernel_rfl) (fun _ _ _ h => h) HF (Or.inl ⟨by rfl, ?_⟩) ?_
  rotate_left 1
  · (rintro v a0; go_simp; try with_reducible rfl)
  try simp only [Act.put]
  refine wpAnyL_take (i := 1) (v := ?_) rfl rfl (by kernel_rfl) (by kernel_rfl) (by kernel_rfl) (by kernel_rfl) (by kernel_rfl) (fun _ _ _ h => h) HF (Or.inl ⟨by rfl, ?_⟩) ?_
  rotate_left 1
  · (rintro v a0; go_simp; try with_reducible rfl)
  try simp only [Act.put]
  refine wpAnyL_take (i := 2) (v := ?_) rfl rfl (by kernel_rfl) (by kernel_rfl) (by kernel_rfl) (by kernel_rfl) (by kernel_rfl) (fun _ _ _ h => h) HF (Or.inl ⟨by rfl, ?_⟩) ?_
  rotate_left 1
  · (rintro v a0; go_simp; try with_reducible rfl)
  try simp only [Act.put]
  refine wpAnyL_take (i := 4) (v := ?_) rfl rfl (by kernel_rfl) (by kernel_rfl) (by kernel_rfl) (by kernel_rfl) (by kernel_rfl) (fun _ _ _ h => h) HF (Or.inl ⟨by rfl, ?_⟩) ?_
  rotate_left 1
  · (rintro v a0; go_simp; try with_reducible rfl)
  try simp only [Act.put]
  refine wpAnyL_take (i := 5) (v := ?_) rfl rfl (by kernel_rfl) (by kernel_rfl) (by kernel_rfl) (by kernel_rfl) (by kernel_rfl) (fun _ _ _ h => h) HF (Or.inl ⟨by rfl, ?_⟩) ?_
  rotate_left 1
  · (rintro v a0; go_simp; try with_reducible rfl)
  try simp only [Act.put]
  refine wpAnyL_take (i := 8) (v := ?_) rfl rfl (by kernel_rfl) (by kernel_rfl) (by kernel_rfl) (by kernel_rfl) (by kernel_rfl) (fun _ _ _ h => h) HF (Or.inl ⟨by rfl, ?_⟩) ?_
  rotate_left 1
  · (rintro v a0; go_simp; try with_reducible rfl)
  try simp only [Act.put]
  refine wpAnyL_take (i := 9) (v := ?_) rfl rfl (by kernel_rfl) (by kernel_rfl) (by kernel_rfl) (by kernel_rfl) (by kernel_rfl) (fun _ _ _ h => h) HF (Or.inl ⟨by rfl, ?_⟩) ?_
  rotate_left 1
  · (rintro v a0; go_simp; try with_reducible rfl)
  try simp only [Act.put]
  refine wpAnyL_take (i := 10) (v := ?_) rfl rfl (by kernel_rfl) (by kernel_rfl) (by kernel_rfl) (by kernel_rfl) (by kernel_rfl) (fun _ _ _ h => h) HF (Or.inl ⟨by rfl, ?_⟩) ?_
  rotate_left 1
  · (rintro v a0; go_simp; try with_reducible rfl)
  try simp only [Act.put]
  refine wpAnyL_take (i := 11) (v := ?_) rfl rfl (by kernel_rfl) (by kernel_rfl) (by kernel_rfl) (by kernel_rfl) (by kernel_rfl) (fun _ _ _ h => h) HF (Or.inl ⟨by rfl, ?_⟩) ?_
  rotate_left 1
  · (rintro v a0; go_simp; try with_reducible rfl)
  try simp only [Act.put]
  refine wpAnyL_step (i := 3) (by kernel_rfl) rfl rfl ?_
  intro K hK
  go_simp
  refine (lbelow_any _ _ _ X.cur ((k : Int) + 1) (by omega)).mono ?_
  rintro e w6 ⟨z2, hz2, rfl, cu, gr⟩
  replace X := X.draw cu gr
  clear cu gr
  clear HF
  have HF : w6.cell? ⟨w.heap.size, 0, none⟩ = some (.int .i64 0) := (X.sep.at_ 1 rfl).cell 0
  refine hK _ _ (fun _ => HF) ?_
  clear hK K
  try simp only [Act.put]
  refine wpAnyL_step (i := 6) (by kernel_rfl) rfl rfl ?_
  intro K hK
  go_simp
  refine (lbelow_any _ _ _ X.cur 3 (by decide)).mono ?_
  rintro e w7 ⟨z3, hz3, rfl, cu, gr⟩
  replace X := X.draw cu gr
  clear cu gr
  clear HF
  have HF : w7.cell? ⟨w.heap.size, 0, none⟩ = some (.int .i64 0) := (X.sep.at_ 1 rfl).cell 0
  refine hK _ _ (fun _ => HF) ?_
  clear hK K
  try simp only [Act.put]
  have hw3 : IntKind.i64.wrap ((m : Int) + z3) = (m : Int) + z3 := by rw [IntKind.wrap_i64]; omega
  refine wpAnyL_take (i := 7) (v := ?_) rfl rfl (by kernel_rfl) (by kernel_rfl) (by kernel_rfl) (by kernel_rfl) (by kernel_rfl) (fun _ _ _ h => h) HF (Or.inl ⟨by rfl, ?_⟩) ?_
  rotate_left 1
  · (rintro v a0; go_simp; try with_reducible rfl)
  try simp only [Act.put]
  refine wpAnyL_take (i := 12) (v := ?_) rfl rfl (by kernel_rfl) (by kernel_rfl) (by kernel_rfl) (by kernel_rfl) (by kernel_rfl) (fun _ _ _ h => h) HF (Or.inl ⟨by rfl, ?_⟩) ?_
  rotate_left 1
  · (rintro v a0; go_simp; try with_reducible rfl)
  try simp only [Act.put]
  have f0 : w7.cell? ⟨w.heap.size, 0, none⟩ = some (.int .i64 0) := (X.sep.at_ 1 rfl).cell 0
  have f1 := (X.sep.at_ 1 rfl).free 0
  have f2 : w7.cell? ⟨w.heap.size, 1, none⟩ = some (.int .i64 0) := (X.sep.at_ 1 rfl).cell 1
  have f3 := (X.sep.at_ 1 rfl).free 1
  have f4 : w7.cell? ⟨w.heap.size, 2, none⟩ = some (.slice none 0 0) := (X.sep.at_ 1 rfl).cell 2
  have f5 := (X.sep.at_ 1 rfl).free 2
  refine wpAnyL_step (i := 13) (by kernel_rfl) rfl rfl ?_
  intro K hK
  go_simp
  refine hK _ _ (fun h => nomatch (show true = false from h)) ?_
  clear hK K
  try simp only [Act.put]
  refine wpAnyL_done (by kernel_rfl) ?_ _
  replace X := X.put 1 rfl 0 (.int .i64 z2)
  replace X := X.put 1 rfl 1 (.int .i64 ((m : Int) + z3))
  replace X := X.put 1 rfl 2 (.slice A2 (m - k) (c - k))
  replace X : DrL w _ _ _ [_, .blk (w.heap.size) #[.int .i64 z2, .int .i64 ((m : Int) + z3), .slice A2 (m - k) (c - k)] 56] := X
  clear HF
  have r0 := Lib.hid ((X.sep.at_ 1 rfl).cell 0)
  have r1 := Lib.hid ((X.sep.at_ 1 rfl).cell 1)
  have r2 := Lib.hid ((X.sep.at_ 1 rfl).cell 2)
  have H := Lib.hid (X.sep.first)
  have CU := Lib.hid X.cur
  have GR := Lib.hid X.grown
  clear X hsl
  try simp only [Act.put]
  go_wp2
  exact bodyPost_ret (v := .agg #[.int .i64 z2, .int .i64 ((m : Int) + z3), .slice A2 (m - k) (c - k)]) (by simp [results, Try.results31, go_sem, r0.out, r1.out, r2.out]) rfl ⟨l, A, n, c, k, m, z2, z3, A2, HL.out, HRUN.out, hk, hkm, by omega, by omega, by omega, rfl, CU.out, GR.out, H.out, hrd⟩

end Go.Proofs.Ytepnghjmpbfmcaa

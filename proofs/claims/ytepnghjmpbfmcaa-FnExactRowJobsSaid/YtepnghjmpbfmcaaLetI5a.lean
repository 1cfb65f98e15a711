/-
  Chapter 11: entries and open jobs read from a row, feeds and lists of jobs read from rows, of the program (by program, wip/gen/genleti5.py).
-/
import Derived.Test.YtepnghjmpbfmcaaLetI4
import Derived.RegionTactic
import Derived.BigQuiet
import Derived.Laws.EntriesVeiled
namespace Go.Proofs.Ytepnghjmpbfmcaa
set_option maxRecDepth 100000
open Go.RowKit

set_option linter.unusedVariables false
theorem ow_nil_entsL (w : World) : Ow w [entD []] [.slice none 0 0] [] := Ow.row (n := 0) (us := []) (fp1 := []) (fp2 := []) (World.ownsRow_nil w 0 _ _) .nil .nil
theorem has_nil_entsL (w : World) (base : Nat) : Has w base [entD []] [.slice none 0 0] := ⟨[], ow_nil_entsL w, List.nodup_nil, fun p hp => by cases hp⟩
theorem ow_nil_djs (w : World) : Ow w [djD []] [.slice none 0 0] [] := Ow.row (n := 0) (us := []) (fp1 := []) (fp2 := []) (World.ownsRow_nil w 0 _ _) .nil .nil
theorem has_nil_djs (w : World) (base : Nat) : Has w base [djD []] [.slice none 0 0] := ⟨[], ow_nil_djs w, List.nodup_nil, fun p hp => by cases hp⟩
def lenV : Value → Nat
  | .slice _ n _ => n
  | _ => 0
set_option maxHeartbeats 12800000 in
theorem iEntryOf_any (b off cc B : Nat) (d : List Int) (x0 x1 x2 x3 x4 x5 x6 x7 x8 : Int) (hx : ofEnt d = ⟨x0, x1, x2, x3, x4, x5, x6, x7, x8⟩) (w : World) (h : IRow w B (some ⟨b, off, none⟩) 9 d) (hB : B ≤ w.heap.size) (hcc : 9 ≤ cc) :
    Calls Try.prog 72 #[.slice (some ⟨b, off, none⟩) 9 cc] w fun e w' => e = .returned (.agg #[.int .i64 x0, .int .i64 x1, .int .i64 x2, .int .i64 x3, .int .i64 x4, .int .i64 x5, .int .i64 x6, .int .i64 x7, .int .i64 x8]) ∧ Below w.heap.size w w' := by
  obtain ⟨b', off', e, hb, hc⟩ := h.2 (by omega)
  injection e with e
  injection e with e1 e2
  subst e1 e2
  unfold ofEnt at hx
  injection hx with q0 q1 q2 q3 q4 q5 q6 q7 q8
  have k0 := hc 0 (by omega)
  rw [q0] at k0
  have k1 := hc 1 (by omega)
  rw [q1] at k1
  have k2 := hc 2 (by omega)
  rw [q2] at k2
  have k3 := hc 3 (by omega)
  rw [q3] at k3
  rw [Nat.add_zero] at k0
  have HP := Lib.hid (show ofOp (d.drop 4) = ⟨x4, x5, x6, x7, x8⟩ by unfold ofOp; simp only [getD_drop]; rw [← q4, ← q5, ← q6, ← q7, ← q8])
  have hdr := h.dropL (m := 4) (by omega)
  have hc1 : ¬ (cc = 4) := by omega
  have hc4 : (4 : Int) ≤ 9 := by decide
  clear hc h q0 q1 q2 q3 q4 q5 q6 q7 q8
  have S := Sep.nil w w.heap.size
  have c := Below.refl w.heap.size w
  replace S := S.boxAt c.size (w.heap.size) rfl #[.int .i64 0, .int .i64 0, .int .i64 0, .int .i64 0, .int .i64 0, .int .i64 0, .int .i64 0, .int .i64 0, .int .i64 0] 83
  replace c := c.alloc c.size (.cells #[.int .i64 0, .int .i64 0, .int .i64 0, .int .i64 0, .int .i64 0, .int .i64 0, .int .i64 0, .int .i64 0, .int .i64 0] 83)
  go_enter Try.func72, Try.ntmps72
  go_wp2_with fail
  generalize w.alloc (.cells #[.int .i64 0, .int .i64 0, .int .i64 0, .int .i64 0, .int .i64 0, .int .i64 0, .int .i64 0, .int .i64 0, .int .i64 0] 83) = w1 at *
  refine wp_region_L (fun v => v.cell? ⟨b, off, none⟩ = some (.int .i64 x0) ∧ v.cell? ⟨b, off + 1, none⟩ = some (.int .i64 x1) ∧ v.cell? ⟨b, off + 2, none⟩ = some (.int .i64 x2) ∧ v.cell? ⟨b, off + 3, none⟩ = some (.int .i64 x3)) 16 (by kernel_rfl) ?_
  replace S := S.keep ((Below.refl _ _).drew)
  replace c := c.drew
  generalize w1.drew = w2 at *
  have HF : w2.cell? ⟨b, off, none⟩ = some (.int .i64 x0) ∧ w2.cell? ⟨b, off + 1, none⟩ = some (.int .i64 x1) ∧ w2.cell? ⟨b, off + 2, none⟩ = some (.int .i64 x2) ∧ w2.cell? ⟨b, off + 3, none⟩ = some (.int .i64 x3) := ⟨(c.cell (p := ⟨b, off, none⟩) (show b < _ by omega)).trans k0, (c.cell (p := ⟨b, off + 1, none⟩) (show b < _ by omega)).trans k1, (c.cell (p := ⟨b, off + 2, none⟩) (show b < _ by omega)).trans k2, (c.cell (p := ⟨b, off + 3, none⟩) (show b < _ by omega)).trans k3⟩
  refine wpAnyL_take (i := 0) (v := ?_) rfl rfl (by kernel_rfl) (by kernel_rfl) (by kernel_rfl) (by kernel_rfl) (by kernel_rfl) (fun _ _ _ h => h) HF (Or.inl ⟨by rfl, ?_⟩) ?_
  rotate_left 1
  · (rintro v ⟨a0, a1, a2, a3⟩; go_simp; try with_reducible rfl)
  try simp only [Act.put]
  refine wpAnyL_take (i := 1) (v := ?_) rfl rfl (by kernel_rfl) (by kernel_rfl) (by kernel_rfl) (by kernel_rfl) (by kernel_rfl) (fun _ _ _ h => h) HF (Or.inl ⟨by rfl, ?_⟩) ?_
  rotate_left 1
  · (rintro v ⟨a0, a1, a2, a3⟩; go_simp; try with_reducible rfl)
  try simp only [Act.put]
  refine wpAnyL_take (i := 2) (v := ?_) rfl rfl (by kernel_rfl) (by kernel_rfl) (by kernel_rfl) (by kernel_rfl) (by kernel_rfl) (fun _ _ _ h => h) HF (Or.inl ⟨by rfl, ?_⟩) ?_
  rotate_left 1
  · (rintro v ⟨a0, a1, a2, a3⟩; go_simp; try with_reducible rfl)
  try simp only [Act.put]
  refine wpAnyL_take (i := 3) (v := ?_) rfl rfl (by kernel_rfl) (by kernel_rfl) (by kernel_rfl) (by kernel_rfl) (by kernel_rfl) (fun _ _ _ h => h) HF (Or.inl ⟨by rfl, ?_⟩) ?_
  rotate_left 1
  · (rintro v ⟨a0, a1, a2, a3⟩; go_simp; try with_reducible rfl)
  try simp only [Act.put]
  refine wpAnyL_take (i := 4) (v := ?_) rfl rfl (by kernel_rfl) (by kernel_rfl) (by kernel_rfl) (by kernel_rfl) (by kernel_rfl) (fun _ _ _ h => h) HF (Or.inl ⟨by rfl, ?_⟩) ?_
  rotate_left 1
  · (rintro v ⟨a0, a1, a2, a3⟩; go_simp; try with_reducible rfl)
  try simp only [Act.put]
  refine wpAnyL_take (i := 5) (v := ?_) rfl rfl (by kernel_rfl) (by kernel_rfl) (by kernel_rfl) (by kernel_rfl) (by kernel_rfl) (fun _ _ _ h => h) HF (Or.inl ⟨by rfl, ?_⟩) ?_
  rotate_left 1
  · (rintro v ⟨a0, a1, a2, a3⟩; go_simp; try with_reducible rfl)
  try simp only [Act.put]
  refine wpAnyL_take (i := 6) (v := ?_) rfl rfl (by kernel_rfl) (by kernel_rfl) (by kernel_rfl) (by kernel_rfl) (by kernel_rfl) (fun _ _ _ h => h) HF (Or.inl ⟨by rfl, ?_⟩) ?_
  rotate_left 1
  · (rintro v ⟨a0, a1, a2, a3⟩; go_simp; try with_reducible rfl)
  try simp only [Act.put]
  refine wpAnyL_take (i := 7) (v := ?_) rfl rfl (by kernel_rfl) (by kernel_rfl) (by kernel_rfl) (by kernel_rfl) (by kernel_rfl) (fun _ _ _ h => h) HF (Or.inl ⟨by rfl, ?_⟩) ?_
  rotate_left 1
  · (rintro v ⟨a0, a1, a2, a3⟩; go_simp; try with_reducible rfl)
  try simp only [Act.put]
  refine wpAnyL_take (i := 8) (v := ?_) rfl rfl (by kernel_rfl) (by kernel_rfl) (by kernel_rfl) (by kernel_rfl) (by kernel_rfl) (fun _ _ _ h => h) HF (Or.inl ⟨by rfl, ?_⟩) ?_
  rotate_left 1
  · (rintro v ⟨a0, a1, a2, a3⟩; go_simp; try with_reducible rfl)
  try simp only [Act.put]
  refine wpAnyL_take (i := 9) (v := ?_) rfl rfl (by kernel_rfl) (by kernel_rfl) (by kernel_rfl) (by kernel_rfl) (by kernel_rfl) (fun _ _ _ h => h) HF (Or.inl ⟨by rfl, ?_⟩) ?_
  rotate_left 1
  · (rintro v ⟨a0, a1, a2, a3⟩; go_simp; try with_reducible rfl)
  try simp only [Act.put]
  refine wpAnyL_take (i := 10) (v := ?_) rfl rfl (by kernel_rfl) (by kernel_rfl) (by kernel_rfl) (by kernel_rfl) (by kernel_rfl) (fun _ _ _ h => h) HF (Or.inl ⟨by rfl, ?_⟩) ?_
  rotate_left 1
  · (rintro v ⟨a0, a1, a2, a3⟩; go_simp; try with_reducible rfl)
  try simp only [Act.put]
  refine wpAnyL_take (i := 11) (v := ?_) rfl rfl (by kernel_rfl) (by kernel_rfl) (by kernel_rfl) (by kernel_rfl) (by kernel_rfl) (fun _ _ _ h => h) HF (Or.inl ⟨by rfl, ?_⟩) ?_
  rotate_left 1
  · (rintro v ⟨a0, a1, a2, a3⟩; go_simp; try with_reducible rfl)
  try simp only [Act.put]
  refine wpAnyL_take (i := 12) (v := ?_) rfl rfl (by kernel_rfl) (by kernel_rfl) (by kernel_rfl) (by kernel_rfl) (by kernel_rfl) (fun _ _ _ h => h) HF (Or.inl ⟨by rfl, ?_⟩) ?_
  rotate_left 1
  · (rintro v ⟨a0, a1, a2, a3⟩; go_simp; try with_reducible rfl)
  try simp only [Act.put]
  refine wpAnyL_take (i := 13) (v := ?_) rfl rfl (by kernel_rfl) (by kernel_rfl) (by kernel_rfl) (by kernel_rfl) (by kernel_rfl) (fun _ _ _ h => h) HF (Or.inl ⟨by rfl, ?_⟩) ?_
  rotate_left 1
  · (rintro v ⟨a0, a1, a2, a3⟩; go_simp; try with_reducible rfl)
  try simp only [Act.put]
  refine wpAnyL_step (i := 14) (by kernel_rfl) rfl rfl ?_
  intro K hK
  go_simp
  refine (iOpOf_any b (off + 4) (cc - 4) B x4 x5 x6 x7 x8 (d.drop 4) HP.out _ (hdr.below (c.mono hB)) (Nat.le_trans hB c.size)).mono ?_
  rintro e w3 ⟨rfl, b2⟩
  replace c := c.trans (b2.mono c.size)
  replace S := S.keep b2
  clear b2
  clear HF
  have HF : w3.cell? ⟨b, off, none⟩ = some (.int .i64 x0) ∧ w3.cell? ⟨b, off + 1, none⟩ = some (.int .i64 x1) ∧ w3.cell? ⟨b, off + 2, none⟩ = some (.int .i64 x2) ∧ w3.cell? ⟨b, off + 3, none⟩ = some (.int .i64 x3) := ⟨(c.cell (p := ⟨b, off, none⟩) (show b < _ by omega)).trans k0, (c.cell (p := ⟨b, off + 1, none⟩) (show b < _ by omega)).trans k1, (c.cell (p := ⟨b, off + 2, none⟩) (show b < _ by omega)).trans k2, (c.cell (p := ⟨b, off + 3, none⟩) (show b < _ by omega)).trans k3⟩
  refine hK _ _ (fun _ => HF) ?_
  clear hK K
  try simp only [Act.put]
  refine wpAnyL_take (i := 15) (v := ?_) rfl rfl (by kernel_rfl) (by kernel_rfl) (by kernel_rfl) (by kernel_rfl) (by kernel_rfl) (fun _ _ _ h => h) HF (Or.inl ⟨by rfl, ?_⟩) ?_
  rotate_left 1
  · (rintro v ⟨a0, a1, a2, a3⟩; go_simp; try with_reducible rfl)
  try simp only [Act.put]
  refine wpAnyL_step (i := 16) (by kernel_rfl) rfl rfl ?_
  intro K hK
  refine wp_store_row _ _ _ rfl w.heap.size #[.int .i64 x0, .int .i64 x1, .int .i64 x2, .int .i64 x3, .int .i64 x4, .int .i64 x5, .int .i64 x6, .int .i64 x7, .int .i64 x8] (by rfl) (by rfl) 83 #[.int .i64 0, .int .i64 0, .int .i64 0, .int .i64 0, .int .i64 0, .int .i64 0, .int .i64 0, .int .i64 0, .int .i64 0] (S.at_ 0 rfl) (show _ = some 9 by kernel_rfl) rfl (all_oneCell_toArray (cs := [.int .i64 x0, .int .i64 x1, .int .i64 x2, .int .i64 x3, .int .i64 x4, .int .i64 x5, .int .i64 x6, .int .i64 x7, .int .i64 x8]) (by intro u hu; simp at hu; cases u <;> simp_all [Value.oneCell'])) ?_
  refine hK _ _ (fun h => nomatch (show true = false from h)) ?_
  clear hK K
  try simp only [Act.put]
  refine wpAnyL_done (by kernel_rfl) ?_ _
  replace c := c.trans ((touch_setRow w3 w.heap.size #[.int .i64 x0, .int .i64 x1, .int .i64 x2, .int .i64 x3, .int .i64 x4, .int .i64 x5, .int .i64 x6, .int .i64 x7, .int .i64 x8]).below (fun q hq => by rw [List.mem_singleton.1 hq]; exact S.base_le 0 rfl) c.size)
  replace S := S.row 0 rfl #[.int .i64 x0, .int .i64 x1, .int .i64 x2, .int .i64 x3, .int .i64 x4, .int .i64 x5, .int .i64 x6, .int .i64 x7, .int .i64 x8]
  generalize w3.setRow w.heap.size #[.int .i64 x0, .int .i64 x1, .int .i64 x2, .int .i64 x3, .int .i64 x4, .int .i64 x5, .int .i64 x6, .int .i64 x7, .int .i64 x8] = w4 at *
  clear HF
  have r0 := Lib.hid (show w4.cell? ⟨w.heap.size, 0, none⟩ = some (.int .i64 x0) from (S.at_ 0 rfl).cell 0)
  have r1 := Lib.hid (show w4.cell? ⟨w.heap.size, 1, none⟩ = some (.int .i64 x1) from (S.at_ 0 rfl).cell 1)
  have r2 := Lib.hid (show w4.cell? ⟨w.heap.size, 2, none⟩ = some (.int .i64 x2) from (S.at_ 0 rfl).cell 2)
  have r3 := Lib.hid (show w4.cell? ⟨w.heap.size, 3, none⟩ = some (.int .i64 x3) from (S.at_ 0 rfl).cell 3)
  have r4 := Lib.hid (show w4.cell? ⟨w.heap.size, 4, none⟩ = some (.int .i64 x4) from (S.at_ 0 rfl).cell 4)
  have r5 := Lib.hid (show w4.cell? ⟨w.heap.size, 5, none⟩ = some (.int .i64 x5) from (S.at_ 0 rfl).cell 5)
  have r6 := Lib.hid (show w4.cell? ⟨w.heap.size, 6, none⟩ = some (.int .i64 x6) from (S.at_ 0 rfl).cell 6)
  have r7 := Lib.hid (show w4.cell? ⟨w.heap.size, 7, none⟩ = some (.int .i64 x7) from (S.at_ 0 rfl).cell 7)
  have r8 := Lib.hid (show w4.cell? ⟨w.heap.size, 8, none⟩ = some (.int .i64 x8) from (S.at_ 0 rfl).cell 8)
  have C := Lib.hid c
  clear S c
  try simp only [Act.put]
  go_simp
  go_wp2
  exact bodyPost_ret (v := .agg #[.int .i64 x0, .int .i64 x1, .int .i64 x2, .int .i64 x3, .int .i64 x4, .int .i64 x5, .int .i64 x6, .int .i64 x7, .int .i64 x8]) (by simp [results, Try.results72, go_sem, r0.out, r1.out, r2.out, r3.out, r4.out, r5.out, r6.out, r7.out, r8.out]) rfl ⟨rfl, C.out⟩

end Go.Proofs.Ytepnghjmpbfmcaa

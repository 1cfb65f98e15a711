/-
  Chapter 5: networks copied, in the model (by program, wip/gen/gennetf.py).
-/
import Derived.Test.YtdcdcccdihhhcaaNetD2
import Derived.RegionTactic
import Derived.BigQuiet
namespace Go.Proofs.Ytdcdcccdihhhcaa
set_option maxRecDepth 100000
open Go.RowKit

theorem link_flat : ∀ x, linkC x = ([x.a, x.b] : List Int).flatMap fun y => [Dat.int y] := fun _ => rfl

set_option maxHeartbeats 6400000 in
theorem sCopyN_any (v0 v1 : Value) (t : NetM) (w : World) (h : Rd w w.heap.size t.cells [v0, v1]) (hs : t.sz ≤ 1048577) :
    Calls Try.prog 87 #[.agg #[v0, v1]] w (MadeNet w t) := by
  obtain ⟨A0, n0, c0, A1, n1, c1, rfl, rfl, hr0, hr1⟩ := h.netT
  have hz0 : msgSz t.flight ≤ 1048577 := by unfold NetM.sz at hs; omega
  have hz1 : linkSz t.cuts ≤ 1048577 := by unfold NetM.sz at hs; omega
  have S := Sep.nil w w.heap.size
  have c := Below.refl w.heap.size w
  replace S := S.boxAt c.size (w.heap.size) rfl #[.slice A0 n0 c0, .slice A1 n1 c1] 30
  replace c := c.alloc c.size (.cells #[.slice A0 n0 c0, .slice A1 n1 c1] 30)
  replace S := S.boxAt c.size (w.heap.size + 1) (by simp) #[.slice none 0 0, .slice none 0 0] 30
  replace c := c.alloc c.size (.cells #[.slice none 0 0, .slice none 0 0] 30)
  go_enter Try.func87, Try.ntmps87
  go_wp2_with fail
  generalize (w.alloc (.cells #[.slice A0 n0 c0, .slice A1 n1 c1] 30)).alloc (.cells #[.slice none 0 0, .slice none 0 0] 30) = w1 at *
  refine wp_region_L (fun v => v.cell? ⟨w.heap.size, 0, none⟩ = some (.slice A0 n0 c0) ∧ v.cell? ⟨w.heap.size, 1, none⟩ = some (.slice A1 n1 c1)) 8 (by kernel_rfl) ?_
  replace S := S.keep ((Below.refl _ _).drew)
  replace c := c.drew
  generalize w1.drew = w2 at *
  have HF : w2.cell? ⟨w.heap.size, 0, none⟩ = some (.slice A0 n0 c0) ∧ w2.cell? ⟨w.heap.size, 1, none⟩ = some (.slice A1 n1 c1) := ⟨(S.at_ 1 rfl).cell 0, (S.at_ 1 rfl).cell 1⟩
  refine wpAnyL_take (i := 0) (v := ?_) rfl rfl (by kernel_rfl) (by kernel_rfl) (by kernel_rfl) (by kernel_rfl) (by kernel_rfl) (fun _ _ _ h => h) HF (Or.inl ⟨by rfl, ?_⟩) ?_
  rotate_left 1
  · (rintro v ⟨a0, a1⟩; go_simp; try with_reducible rfl)
  try simp only [Act.put]
  refine wpAnyL_take (i := 1) (v := ?_) rfl rfl (by kernel_rfl) (by kernel_rfl) (by kernel_rfl) (by kernel_rfl) (by kernel_rfl) (fun _ _ _ h => h) HF (Or.inl ⟨by rfl, ?_⟩) ?_
  rotate_left 1
  · (rintro v ⟨a0, a1⟩; go_simp; try with_reducible rfl)
  try simp only [Act.put]
  refine wpAnyL_take (i := 4) (v := ?_) rfl rfl (by kernel_rfl) (by kernel_rfl) (by kernel_rfl) (by kernel_rfl) (by kernel_rfl) (fun _ _ _ h => h) HF (Or.inl ⟨by rfl, ?_⟩) ?_
  rotate_left 1
  · (rintro v ⟨a0, a1⟩; go_simp; try with_reducible rfl)
  try simp only [Act.put]
  refine wpAnyL_take (i := 5) (v := ?_) rfl rfl (by kernel_rfl) (by kernel_rfl) (by kernel_rfl) (by kernel_rfl) (by kernel_rfl) (fun _ _ _ h => h) HF (Or.inl ⟨by rfl, ?_⟩) ?_
  rotate_left 1
  · (rintro v ⟨a0, a1⟩; go_simp; try with_reducible rfl)
  try simp only [Act.put]
  refine wpAnyL_two (i := 2) (k := 3) (by kernel_rfl) rfl rfl rfl rfl ?_ ?_
  · intro K hK
    go_simp
    refine (sMsgs_any A0 n0 c0 t.flight _ ((hr0.keep c).up c.size) hz0).mono ?_
    rintro e w3 ⟨Au, nu, cu, rfl, o, b⟩
    obtain ⟨fp_u, S'⟩ := S.has b o c.size
    replace c := c.trans (b.mono c.size)
    clear S; have S := S'; clear S' o b
    clear HF
    have HF : w3.cell? ⟨w.heap.size, 0, none⟩ = some (.slice A0 n0 c0) ∧ w3.cell? ⟨w.heap.size, 1, none⟩ = some (.slice A1 n1 c1) := ⟨(S.at_ 2 rfl).cell 0, (S.at_ 2 rfl).cell 1⟩
    refine hK _ _ (fun _ => HF) ?_
    clear hK K
    try simp only [Act.put]
    refine wpAnyL_step (i := 3) (by kernel_rfl) rfl rfl ?_
    intro K hK
    go_simp
    replace S := S.boxAt c.size (w3.heap.size) rfl #[] 75
    replace c := c.alloc c.size (.cells #[] 75)
    clear HF
    have HF : (w3.alloc (.cells #[] 75)).cell? ⟨w.heap.size, 0, none⟩ = some (.slice A0 n0 c0) ∧ (w3.alloc (.cells #[] 75)).cell? ⟨w.heap.size, 1, none⟩ = some (.slice A1 n1 c1) := ⟨(S.at_ 3 rfl).cell 0, (S.at_ 3 rfl).cell 1⟩
    refine hK _ _ (fun _ => HF) ?_
    clear hK K
    try simp only [Act.put]
    generalize hw : w3.alloc (.cells #[] 75) = w4 at *
    have HWw4 := Lib.hid hw
    clear hw
    replace S := S.pick 0 rfl
    replace S := S.blk0 (k := 2) (f := linkC)
    replace S := (S.flat link_flat t.cuts).swap
    have hsr := (hr1.keep c).src link_flat linkC_len (by decide)
    refine wpAnyL_step (i := 6) (by kernel_rfl) rfl rfl ?_
    intro K hK
    refine wp_append_fresh (l2 := t.cuts) _ _ (by rfl) Try.underlying28 infoLink (by rfl) (by decide) linkC_len (by rfl) (S.own_ 0 rfl) (S.nodup_own 0 rfl) (by rfl) hsr.1 (S.own_ 1 rfl) hsr.2 (S.nodup_own 1 rfl) S.apart (by have := hsr.2; unfold linkSz at hz1; omega) (by omega) ?_
    intro A3 c3 w5 fp3 o3 n3 s3 t3
    have S' := S.merge t3 o3 n3 s3 c.size
    replace c := c.trans (S.below 0 rfl t3 c.size)
    clear S; have S := S'; clear S' o3 n3 s3 t3 hsr
    clear HF
    have HF : w5.cell? ⟨w.heap.size, 0, none⟩ = some (.slice A0 n0 c0) ∧ w5.cell? ⟨w.heap.size, 1, none⟩ = some (.slice A1 n1 c1) := ⟨(S.at_ 3 rfl).cell 0, (S.at_ 3 rfl).cell 1⟩
    refine hK _ _ (fun _ => HF) ?_
    clear hK K
    try simp only [Act.put]
    have f0 : w5.cell? ⟨w.heap.size + 1, 0, none⟩ = some (.slice none 0 0) := (S.at_ 2 rfl).cell 0
    have f1 := (S.at_ 2 rfl).free 0
    have f2 : w5.cell? ⟨w.heap.size + 1, 1, none⟩ = some (.slice none 0 0) := (S.at_ 2 rfl).cell 1
    have f3 := (S.at_ 2 rfl).free 1
    refine wpAnyL_step (i := 7) (by kernel_rfl) rfl rfl ?_
    intro K hK
    go_simp
    refine hK _ _ (fun _ => HF) ?_
    clear hK K
    try simp only [Act.put]
    refine wpAnyL_step (i := 8) (by kernel_rfl) rfl rfl ?_
    intro K hK
    go_simp
    refine hK _ _ (fun h => nomatch (show true = false from h)) ?_
    clear hK K
    try simp only [Act.put]
    refine wpAnyL_done (by kernel_rfl) ?_ _
    replace S := S.put 2 rfl 0 (.slice Au nu cu)
    replace c := c.setCell (p := ⟨w.heap.size + 1, 0, none⟩) (by show w.heap.size ≤ w.heap.size + 1; omega) (.slice Au nu cu)
    replace S := S.put 2 rfl 1 (.slice A3 n1 c3)
    replace c := c.setCell (p := ⟨w.heap.size + 1, 1, none⟩) (by show w.heap.size ≤ w.heap.size + 1; omega) (.slice A3 n1 c3)
    replace S := S.pick 1 rfl
    replace S := S.pick 1 rfl
    have H := Lib.hid (S.pair)
    have C := Lib.hid c
    have r0 := Lib.hid ((S.at_ 2 rfl).cell 0)
    have r1 := Lib.hid ((S.at_ 2 rfl).cell 1)
    clear S c h hr0 hr1 HF
    go_wp2
    exact bodyPost_ret (v := .agg #[.slice Au nu cu, .slice A3 n1 c3]) (by simp [results, Try.results87, go_sem, r0.out, r1.out]) rfl ⟨_, _, _, _, _, _, rfl, H.out, C.out⟩
  · intro K hK
    go_simp
    replace S := S.boxAt c.size (w2.heap.size) rfl #[] 75
    replace c := c.alloc c.size (.cells #[] 75)
    clear HF
    have HF : (w2.alloc (.cells #[] 75)).cell? ⟨w.heap.size, 0, none⟩ = some (.slice A0 n0 c0) ∧ (w2.alloc (.cells #[] 75)).cell? ⟨w.heap.size, 1, none⟩ = some (.slice A1 n1 c1) := ⟨(S.at_ 2 rfl).cell 0, (S.at_ 2 rfl).cell 1⟩
    refine hK _ _ (fun _ => HF) ?_
    clear hK K
    try simp only [Act.put]
    generalize hw : w2.alloc (.cells #[] 75) = w3 at *
    have HWw3 := Lib.hid hw
    clear hw
    refine wpAnyL_step (i := 2) (by kernel_rfl) rfl rfl ?_
    intro K hK
    go_simp
    refine (sMsgs_any A0 n0 c0 t.flight _ ((hr0.keep c).up c.size) hz0).mono ?_
    rintro e w4 ⟨Au, nu, cu, rfl, o, b⟩
    obtain ⟨fp_u, S'⟩ := S.has b o c.size
    replace c := c.trans (b.mono c.size)
    clear S; have S := S'; clear S' o b
    clear HF
    have HF : w4.cell? ⟨w.heap.size, 0, none⟩ = some (.slice A0 n0 c0) ∧ w4.cell? ⟨w.heap.size, 1, none⟩ = some (.slice A1 n1 c1) := ⟨(S.at_ 3 rfl).cell 0, (S.at_ 3 rfl).cell 1⟩
    refine hK _ _ (fun _ => HF) ?_
    clear hK K
    try simp only [Act.put]
    replace S := S.pick 1 rfl
    replace S := S.blk0 (k := 2) (f := linkC)
    replace S := (S.flat link_flat t.cuts).swap
    have hsr := (hr1.keep c).src link_flat linkC_len (by decide)
    refine wpAnyL_step (i := 6) (by kernel_rfl) rfl rfl ?_
    intro K hK
    refine wp_append_fresh (l2 := t.cuts) _ _ (by rfl) Try.underlying28 infoLink (by rfl) (by decide) linkC_len (by rfl) (S.own_ 0 rfl) (S.nodup_own 0 rfl) (by rfl) hsr.1 (S.own_ 1 rfl) hsr.2 (S.nodup_own 1 rfl) S.apart (by have := hsr.2; unfold linkSz at hz1; omega) (by omega) ?_
    intro A3 c3 w5 fp3 o3 n3 s3 t3
    have S' := S.merge t3 o3 n3 s3 c.size
    replace c := c.trans (S.below 0 rfl t3 c.size)
    clear S; have S := S'; clear S' o3 n3 s3 t3 hsr
    clear HF
    have HF : w5.cell? ⟨w.heap.size, 0, none⟩ = some (.slice A0 n0 c0) ∧ w5.cell? ⟨w.heap.size, 1, none⟩ = some (.slice A1 n1 c1) := ⟨(S.at_ 3 rfl).cell 0, (S.at_ 3 rfl).cell 1⟩
    refine hK _ _ (fun _ => HF) ?_
    clear hK K
    try simp only [Act.put]
    have f0 : w5.cell? ⟨w.heap.size + 1, 0, none⟩ = some (.slice none 0 0) := (S.at_ 2 rfl).cell 0
    have f1 := (S.at_ 2 rfl).free 0
    have f2 : w5.cell? ⟨w.heap.size + 1, 1, none⟩ = some (.slice none 0 0) := (S.at_ 2 rfl).cell 1
    have f3 := (S.at_ 2 rfl).free 1
    refine wpAnyL_step (i := 7) (by kernel_rfl) rfl rfl ?_
    intro K hK
    go_simp
    refine hK _ _ (fun _ => HF) ?_
    clear hK K
    try simp only [Act.put]
    refine wpAnyL_step (i := 8) (by kernel_rfl) rfl rfl ?_
    intro K hK
    go_simp
    refine hK _ _ (fun h => nomatch (show true = false from h)) ?_
    clear hK K
    try simp only [Act.put]
    refine wpAnyL_done (by kernel_rfl) ?_ _
    replace S := S.put 2 rfl 0 (.slice Au nu cu)
    replace c := c.setCell (p := ⟨w.heap.size + 1, 0, none⟩) (by show w.heap.size ≤ w.heap.size + 1; omega) (.slice Au nu cu)
    replace S := S.put 2 rfl 1 (.slice A3 n1 c3)
    replace c := c.setCell (p := ⟨w.heap.size + 1, 1, none⟩) (by show w.heap.size ≤ w.heap.size + 1; omega) (.slice A3 n1 c3)
    replace S := S.pick 1 rfl
    replace S := S.pick 1 rfl
    have H := Lib.hid (S.pair)
    have C := Lib.hid c
    have r0 := Lib.hid ((S.at_ 2 rfl).cell 0)
    have r1 := Lib.hid ((S.at_ 2 rfl).cell 1)
    clear S c h hr0 hr1 HF
    go_wp2
    exact bodyPost_ret (v := .agg #[.slice Au nu cu, .slice A3 n1 c3]) (by simp [results, Try.results87, go_sem, r0.out, r1.out]) rfl ⟨_, _, _, _, _, _, rfl, H.out, C.out⟩

end Go.Proofs.Ytdcdcccdihhhcaa

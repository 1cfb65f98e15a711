/-
  A letter drawn by the laws: a valid message, its row in memory of its own (by program, wip/gen/gennets.py).
-/
import Derived.Test.YthcagdcbifdfeaaNetK0
import Derived.RegionTactic
import Derived.BigQuiet
namespace Go.Proofs.Ythcagdcbifdfeaa
set_option maxRecDepth 100000
open Go.RowKit

set_option maxHeartbeats 3200000 in
theorem letter_any (B p : Nat) (w : World) (h : LCur w B p) :
    Calls Try.prog 26 #[.pointer (some ⟨p, 0, none⟩)] w (fun e w' => ∃ (x0 x1 : Int) (xs : List Int) (A : Option Addr) (n c : Nat), msgOk ⟨x0, x1, xs⟩ = true ∧ e = .returned (.agg #[.int .i64 x0, .int .i64 x1, .slice A n c]) ∧ LCur w' B p ∧ w.grownBy w' (some p) ∧ Has w' w.heap.size (msgC ⟨x0, x1, xs⟩) [.int .i64 x0, .int .i64 x1, .slice A n c]) := by
  have X := DrL.start h
  clear h
  replace X := X.boxAt (w.heap.size) rfl #[.int .i64 0, .int .i64 0, .slice none 0 0] 37
  go_enter Try.func26, Try.ntmps26
  go_wp2_with fail
  generalize w.alloc (.cells #[.int .i64 0, .int .i64 0, .slice none 0 0] 37) = w1 at *
  refine (lbelow_any _ _ _ X.cur 6 (by decide)).mono ?_
  rintro e w2 ⟨x0, hx0, rfl, cu, gr⟩
  replace X := X.draw cu gr
  clear cu gr
  have hlt : w.heap.size < w2.heap.size := (X.sep.at_ 0 rfl).lt
  have hne1 : ¬ (w2.heap.size = w.heap.size) := by omega
  have hne2 : ¬ (w.heap.size = w2.heap.size) := by omega
  replace X := X.boxAt (w2.heap.size) rfl #[.int .i64 x0, .int .i64 0, .slice none 0 0] 37
  go_wp2_with fail
  generalize w2.alloc (.cells #[.int .i64 x0, .int .i64 0, .slice none 0 0] 37) = w3 at *
  generalize w2.heap.size = rm at *
  refine wp_region_L (fun v => v.cell? ⟨rm, 0, none⟩ = some (.int .i64 x0)) 8 (by kernel_rfl) ?_
  replace X := X.drew
  generalize w3.drew = w4 at *
  have HF : w4.cell? ⟨rm, 0, none⟩ = some (.int .i64 x0) := (X.sep.at_ 0 rfl).cell 0
  refine wpAnyL_take (i := 0) (v := ?_) rfl rfl (by kernel_rfl) (by kernel_rfl) (by kernel_rfl) (by kernel_rfl) (by kernel_rfl) (fun _ _ _ h => h) HF (Or.inl ⟨by rfl, ?_⟩) ?_
  rotate_left 1
  · (rintro v a0; go_simp; try with_reducible rfl)
  try simp only [Act.put]
  refine wpAnyL_take (i := 1) (v := ?_) rfl rfl (by kernel_rfl) (by kernel_rfl) (by kernel_rfl) (by kernel_rfl) (by kernel_rfl) (fun _ _ _ h => h) HF (Or.inl ⟨by rfl, ?_⟩) ?_
  rotate_left 1
  · (rintro v a0; go_simp; try with_reducible rfl)
  try simp only [Act.put]
  refine wpAnyL_pure (i := 2) (v := ?_) rfl rfl (by kernel_rfl) (by kernel_rfl) (by kernel_rfl) (fun _ _ _ h => h) HF (Or.inl ⟨by rfl, ?_⟩) ?_
  rotate_left 1
  · (intro v _; go_simp; try with_reducible rfl)
  try simp only [Act.put]
  refine wpAnyL_pure (i := 3) (v := ?_) rfl rfl (by kernel_rfl) (by kernel_rfl) (by kernel_rfl) (fun _ _ _ h => h) HF (Or.inl ⟨by rfl, ?_⟩) ?_
  rotate_left 1
  · (intro v _; go_simp; try with_reducible rfl)
  try simp only [Act.put]
  refine wpAnyL_step (i := 4) (by kernel_rfl) rfl rfl ?_
  intro K hK
  go_simp
  refine (lbelow_any _ _ _ X.cur 5 (by decide)).mono ?_
  rintro e w5 ⟨y, hy, rfl, cu, gr⟩
  replace X := X.draw cu gr
  clear cu gr
  clear HF
  have HF : w5.cell? ⟨rm, 0, none⟩ = some (.int .i64 x0) := (X.sep.at_ 0 rfl).cell 0
  refine hK _ _ (fun _ => HF) ?_
  clear hK K
  try simp only [Act.put]
  refine wpAnyL_pure (i := 5) (v := ?_) rfl rfl (by kernel_rfl) (by kernel_rfl) (by kernel_rfl) (fun _ _ _ h => h) HF (Or.inl ⟨by rfl, ?_⟩) ?_
  rotate_left 1
  · (intro v _; go_simp; try with_reducible rfl)
  try simp only [Act.put]
  refine wpAnyL_pure (i := 6) (v := ?_) rfl rfl (by kernel_rfl) (by kernel_rfl) (by kernel_rfl) (fun _ _ _ h => h) HF (Or.inl ⟨by rfl, ?_⟩) ?_
  rotate_left 1
  · (intro v _; go_simp; try with_reducible rfl)
  try simp only [Act.put]
  have f0 : w5.cell? ⟨rm, 0, none⟩ = some (.int .i64 x0) := (X.sep.at_ 0 rfl).cell 0
  have f1 := (X.sep.at_ 0 rfl).free 0
  have f2 : w5.cell? ⟨rm, 1, none⟩ = some (.int .i64 0) := (X.sep.at_ 0 rfl).cell 1
  have f3 := (X.sep.at_ 0 rfl).free 1
  have f4 : w5.cell? ⟨rm, 2, none⟩ = some (.slice none 0 0) := (X.sep.at_ 0 rfl).cell 2
  have f5 := (X.sep.at_ 0 rfl).free 2
  refine wpAnyL_step (i := 7) (by kernel_rfl) rfl rfl ?_
  intro K hK
  go_simp
  refine hK _ _ (fun _ => HF) ?_
  clear hK K
  try simp only [Act.put]
  refine wpAnyL_step (i := 8) (by kernel_rfl) rfl rfl ?_
  intro K hK
  go_simp
  refine hK _ _ (fun h => nomatch (show true = false from h)) ?_
  clear hK K
  try simp only [Act.put]
  refine wpAnyL_done (by kernel_rfl) ?_ _
  have hwr : IntKind.i64.wrap (IntKind.i64.wrap (x0 + 1) + y) = x0 + 1 + y := by rw [IntKind.wrap_i64, IntKind.wrap_i64]; omega
  rw [hwr]
  have HOK := Lib.hid (fun xs h1 h2 h3 => letter_ok (xs := xs) hx0 hy h1 h2 h3)
  obtain ⟨x1, hx1⟩ : ∃ q, q = (x0 + 1 + y).tmod 6 := ⟨_, rfl⟩
  rw [← hx1] at HOK
  rw [← hx1]
  clear hwr hx1 hx0 hy HF
  replace X := X.put 0 rfl 1 (.int .i64 x1)
  replace X : DrL w _ _ _ [.blk (rm) #[.int .i64 x0, .int .i64 x1, .slice none 0 0] 37, .blk (w.heap.size) #[.int .i64 0, .int .i64 0, .slice none 0 0] 37] := X
  generalize w5.setCell ⟨rm, 1, none⟩ (.int .i64 x1) = w6 at *
  clear f0 f1 f2 f3 f4 f5
  go_wp2_with fail
  refine (lbelow_any _ _ _ X.cur 4 (by decide)).mono ?_
  rintro e w7 ⟨z, hz, rfl, cu, gr⟩
  replace X := X.draw cu gr
  clear cu gr
  obtain ⟨K, hK, hK0, hK4⟩ : ∃ K : Nat, 1 + z = (K : Int) ∧ 0 < K ∧ K ≤ 4 := ⟨(1 + z).toNat, by omega, by omega, by omega⟩
  have hwz : IntKind.i64.wrap (1 + z) = (K : Int) := by rw [IntKind.wrap_i64]; omega
  replace X := X.with_ (X.sep.own0 (ow_nil_row _))
  have X0 := Lib.hid X
  clear X
  go_wp2_with fail
  go_loopw [4] (fun kv wr => ∃ (k : Nat) (xs : List Int) (A : Option Addr) (n c : Nat) (fp : List Nat), kv = .int .i64 (k : Int) ∧ xs.length = n ∧ n + k = K ∧ (∀ x ∈ xs, 0 ≤ x ∧ x < 100) ∧ DrL w wr B p [.own [rowD xs] [.slice A n c] fp, .blk rm #[.int .i64 x0, .int .i64 x1, .slice A n c] 37, .blk w.heap.size #[.int .i64 0, .int .i64 0, .slice none 0 0] 37]) (fun kv _ => (intOf kv).toNat)
  case atStart => exact ⟨K, [], _, 0, _, _, by first | rfl | rw [hwz] | (simp; omega), rfl, by omega, fun x hx => absurd hx (by simp), X0.out⟩
  case round =>
    obtain ⟨k, xs, A, n, c, fp, rfl, hl, hkn, hxs, X⟩ := hrel
    clear X0
    rcases k with _ | j
    · have f6 : wr.cell? ⟨rm, 0, none⟩ = some (.int .i64 x0) := (X.sep.at_ 1 rfl).cell 0
      have f7 : wr.cell? ⟨rm, 1, none⟩ = some (.int .i64 x1) := (X.sep.at_ 1 rfl).cell 1
      have f8 : wr.cell? ⟨rm, 2, none⟩ = some (.slice A n c) := (X.sep.at_ 1 rfl).cell 2
      have f9 : wr.cell? ⟨w.heap.size, 0, none⟩ = some (.int .i64 0) := (X.sep.at_ 2 rfl).cell 0
      have f10 := (X.sep.at_ 2 rfl).free 0
      have f11 : wr.cell? ⟨w.heap.size, 1, none⟩ = some (.int .i64 0) := (X.sep.at_ 2 rfl).cell 1
      have f12 := (X.sep.at_ 2 rfl).free 1
      have f13 : wr.cell? ⟨w.heap.size, 2, none⟩ = some (.slice none 0 0) := (X.sep.at_ 2 rfl).cell 2
      have f14 := (X.sep.at_ 2 rfl).free 2
      have HM := Lib.hid (HOK.out xs (by omega) (by omega) hxs)
      replace X := X.put 2 rfl 0 (.int .i64 x0)
      replace X := X.put 2 rfl 1 (.int .i64 x1)
      replace X := X.put 2 rfl 2 (.slice A n c)
      replace X : DrL w _ _ _ [_, .blk (rm) #[.int .i64 x0, .int .i64 x1, .slice A n c] 37, .blk (w.heap.size) #[.int .i64 x0, .int .i64 x1, .slice A n c] 37] := X
      have H := Lib.hid (Has.int (n := x0) (Has.int (n := x1) ((X.sep.sub (.cons_cons _ (List.nil_sublist _))).first)))
      have r0 := Lib.hid ((X.sep.at_ 2 rfl).cell 0)
      have r1 := Lib.hid ((X.sep.at_ 2 rfl).cell 1)
      have r2 := Lib.hid ((X.sep.at_ 2 rfl).cell 2)
      have CU := Lib.hid X.cur
      have GR := Lib.hid X.grown
      clear X HOK
      go_wp2
      exact bodyPost_ret (v := .agg #[.int .i64 x0, .int .i64 x1, .slice A n c]) (by simp [results, Try.results26, go_sem, r0.out, r1.out, r2.out]) rfl ⟨_, _, _, _, _, _, HM.out, rfl, CU.out, GR.out, H.out⟩
    · have hj : ((j : Int) + 1) > 0 := by omega
      have f6 : wr.cell? ⟨rm, 0, none⟩ = some (.int .i64 x0) := (X.sep.at_ 1 rfl).cell 0
      have f7 : wr.cell? ⟨rm, 1, none⟩ = some (.int .i64 x1) := (X.sep.at_ 1 rfl).cell 1
      have f8 : wr.cell? ⟨rm, 2, none⟩ = some (.slice A n c) := (X.sep.at_ 1 rfl).cell 2
      go_wp2_with fail
      refine wp_region_L (fun v => v.cell? ⟨rm, 2, none⟩ = some (.slice A n c)) 7 (by kernel_rfl) ?_
      clear f6 f7 f8
      replace X := X.drew
      generalize wr.drew = w8 at *
      have HF : w8.cell? ⟨rm, 2, none⟩ = some (.slice A n c) := (X.sep.at_ 1 rfl).cell 2
      refine wpAnyL_take (i := 0) (v := ?_) rfl rfl (by kernel_rfl) (by kernel_rfl) (by kernel_rfl) (by kernel_rfl) (by kernel_rfl) (fun _ _ _ h => h) HF (Or.inl ⟨by rfl, ?_⟩) ?_
      rotate_left 1
      · (rintro v a0; go_simp; try with_reducible rfl)
      try simp only [Act.put]
      refine wpAnyL_take (i := 1) (v := ?_) rfl rfl (by kernel_rfl) (by kernel_rfl) (by kernel_rfl) (by kernel_rfl) (by kernel_rfl) (fun _ _ _ h => h) HF (Or.inl ⟨by rfl, ?_⟩) ?_
      rotate_left 1
      · (rintro v a0; go_simp; try with_reducible rfl)
      try simp only [Act.put]
      refine wpAnyL_pure (i := 2) (v := ?_) rfl rfl (by kernel_rfl) (by kernel_rfl) (by kernel_rfl) (fun _ _ _ h => h) HF (Or.inl ⟨by rfl, ?_⟩) ?_
      rotate_left 1
      · (intro v _; go_simp; try with_reducible rfl)
      try simp only [Act.put]
      refine wpAnyL_step (i := 3) (by kernel_rfl) rfl rfl ?_
      intro K hK
      go_simp
      refine (lbelow_any _ _ _ X.cur 100 (by decide)).mono ?_
      rintro e w9 ⟨v, hv, rfl, cu, gr⟩
      replace X := X.draw cu gr
      clear cu gr
      clear HF
      have HF : w9.cell? ⟨rm, 2, none⟩ = some (.slice A n c) := (X.sep.at_ 1 rfl).cell 2
      refine hK _ _ (fun _ => HF) ?_
      clear hK K
      try simp only [Act.put]
      refine wpAnyL_step (i := 4) (by kernel_rfl) rfl rfl ?_
      intro K hK
      go_simp
      replace X := X.boxAt (w9.heap.size) rfl #[.int .i64 v] 2
      clear HF
      have HF : (w9.alloc (.cells #[.int .i64 v] 2)).cell? ⟨rm, 2, none⟩ = some (.slice A n c) := (X.sep.at_ 2 rfl).cell 2
      refine hK _ _ (fun _ => HF) ?_
      clear hK K
      try simp only [Act.put]
      generalize hw : w9.alloc (.cells #[.int .i64 v] 2) = w10 at *
      clear hw
      have HC : ∀ i, i < 1 → w10.cell? ⟨w9.heap.size, i, none⟩ = [Value.int .i64 v][i]? := fun i hi => by
        have h1 := (X.sep.at_ 0 rfl).cell i
        have : i = 0 := by omega
        subst this
        exact h1
      replace X := X.with_ (X.sep.own0 (show Ow _ [Dat.int v] [.int .i64 v] [] from .int .nil))
      replace X := X.with_ (X.sep.pick 2 rfl)
      refine wpAnyL_step (i := 5) (by kernel_rfl) rfl rfl ?_
      intro K hK
      refine wp_append_elem (l := xs) (y := v) (f := fun x => [Dat.int x]) (k := 1) _ _ (by rfl) Try.underlying35 info64 (by rfl) (by decide) (fun _ => rfl) (by rfl) (X.sep.own_ 0 rfl) (X.sep.nodup_own 0 rfl) (by rfl) HC (X.sep.own_ 1 rfl) (X.sep.nodup_own 1 rfl) X.sep.apart (by omega) (by omega) ?_
      intro A3 c3 w11 fp3 o3 n3 s3 t3
      have X' := X.move (X.sep.below 0 rfl t3 X.grown.size) (X.sep.merge t3 o3 n3 s3 X.grown.size)
      clear X; have X := X'; clear X' o3 n3 s3 t3 HC
      clear HF
      have HF : w11.cell? ⟨rm, 2, none⟩ = some (.slice A n c) := (X.sep.at_ 2 rfl).cell 2
      refine hK _ _ (fun _ => HF) ?_
      clear hK K
      try simp only [Act.put]
      have f9 : w11.cell? ⟨rm, 0, none⟩ = some (.int .i64 x0) := (X.sep.at_ 2 rfl).cell 0
      have f10 := (X.sep.at_ 2 rfl).free 0
      have f11 : w11.cell? ⟨rm, 1, none⟩ = some (.int .i64 x1) := (X.sep.at_ 2 rfl).cell 1
      have f12 := (X.sep.at_ 2 rfl).free 1
      have f13 : w11.cell? ⟨rm, 2, none⟩ = some (.slice A n c) := (X.sep.at_ 2 rfl).cell 2
      have f14 := (X.sep.at_ 2 rfl).free 2
      refine wpAnyL_step (i := 6) (by kernel_rfl) rfl rfl ?_
      intro K hK
      go_simp
      refine hK _ _ (fun _ => HF) ?_
      clear hK K
      try simp only [Act.put]
      refine wpAnyL_step (i := 7) (by kernel_rfl) rfl rfl ?_
      intro K hK
      go_simp
      refine hK _ _ (fun h => nomatch (show true = false from h)) ?_
      clear hK K
      try simp only [Act.put]
      refine wpAnyL_done (by kernel_rfl) ?_ _
      replace X := X.with_ (X.sep.sub (.cons_cons _ (.cons _ (.cons_cons _ (.cons_cons _ (List.nil_sublist _))))))
      replace X := X.put 1 rfl 2 (.slice A3 (n + 1) c3)
      have X1 := Lib.hid X
      clear X HF f9 f10 f11 f12 f13 f14
      go_wp2
      go_roundw
      case rel => exact ⟨j, xs ++ [v], A3, n + 1, c3, _, by go_num, by simp [hl], by omega, fun x hx => by
        rcases List.mem_append.1 hx with h | h
        · exact hxs x h
        · obtain rfl := List.mem_singleton.1 h
          exact hv, X1.out⟩
      case measure => simp [intOf]

end Go.Proofs.Ythcagdcbifdfeaa

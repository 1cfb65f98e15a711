/-
  Chapter 11: feeds and lists of jobs read from rows, of the program (by program, wip/gen/genleti5.py).
-/
import Derived.Test.YtepnghjmpbfmcaaLetI5b
import Derived.Test.YtepnghjmpbfmcaaLetI5c
import Derived.RegionTactic
import Derived.BigQuiet
import Derived.Laws.EntriesVeiled
namespace Go.Proofs.Ytepnghjmpbfmcaa
set_option maxRecDepth 100000
open Go.RowKit

set_option linter.unusedVariables false
set_option maxHeartbeats 12800000 in
theorem iLetOf_feed (b off n cc B k : Nat) (d : List Int) (w : World) (h : IRow w B (some ⟨b, off, none⟩) n d) (hB : B ≤ w.heap.size) (hk : n = 2 + 9 * k) (hk5 : k ≤ 24) (hnc : n ≤ cc) (hcm : cc ≤ maxLen) :
    Calls Try.prog 60 #[.int .i64 4, .slice (some ⟨b, off, none⟩) n cc] w fun e w' => ∃ (G : Option Addr) (m gc : Nat), e = .returned (.iface 56 (.agg #[.int .i64 (d.getD 0 0), .int .i64 (d.getD 1 0), .slice G m gc])) ∧ Has w' w.heap.size [entD (entsFrom (d.drop 2) k)] [.slice G m gc] ∧ Below w.heap.size w w' := by
  have HCM := Lib.hid hcm
  unfold maxLen at hcm
  obtain ⟨b', off', e, hb, hc⟩ := h.2 (by omega)
  injection e with e
  injection e with e1 e2
  subst e1 e2
  obtain ⟨x0, hx0⟩ : ∃ x, x = d.getD 0 0 := ⟨_, rfl⟩
  have k0 := hc 0 (by omega)
  rw [← hx0] at k0
  have hi0 : (0 : Int) < (n : Int) := by omega
  have hin0 : 0 < n := by omega
  obtain ⟨x1, hx1⟩ : ∃ x, x = d.getD 1 0 := ⟨_, rfl⟩
  have k1 := hc 1 (by omega)
  rw [← hx1] at k1
  have hi1 : (1 : Int) < (n : Int) := by omega
  have hin1 : 1 < n := by omega
  rw [Nat.add_zero] at k0
  rw [← hx0, ← hx1]
  have hsl : (2 : Int) ≤ (n : Int) := by omega
  have hsc : (2 : Int) ≤ (cc : Int) := by omega
  have hsln : 2 ≤ n := by omega
  have hscn : 2 ≤ cc := by omega
  have HK := Lib.hid hk
  have HH := Lib.hid h
  clear hc h hx0 hx1
  by_cases hcc : cc = 2
  case pos =>
    have S := Sep.nil w w.heap.size
    have c := Below.refl w.heap.size w
    have hk0 : k = 0 := by omega
    have HIR : ∀ Z : Option Addr, IRow w B Z (n - 2) (d.drop 2) := fun Z => by
      have e7 : n - 2 = 0 := by omega
      rw [e7]
      exact IRow.emptyL (by rw [List.length_drop, HH.out.1]; omega)
    clear hk
    go_enter Try.func60, Try.ntmps60
    go_wp2_with fail
    refine wp_region_L (fun v => v.cell? ⟨b, off, none⟩ = some (.int .i64 x0) ∧ v.cell? ⟨b, off + 1, none⟩ = some (.int .i64 x1)) 11 (by kernel_rfl) ?_
    replace S := S.keep ((Below.refl _ _).drew)
    replace c := c.drew
    generalize w.drew = w1 at *
    have HF : w1.cell? ⟨b, off, none⟩ = some (.int .i64 x0) ∧ w1.cell? ⟨b, off + 1, none⟩ = some (.int .i64 x1) := ⟨(c.cell (p := ⟨b, off, none⟩) (show b < _ by omega)).trans k0, (c.cell (p := ⟨b, off + 1, none⟩) (show b < _ by omega)).trans k1⟩
    refine wpAnyL_take (i := 0) (v := ?_) rfl rfl (by kernel_rfl) (by kernel_rfl) (by kernel_rfl) (by kernel_rfl) (by kernel_rfl) (fun _ _ _ h => h) HF (Or.inl ⟨by rfl, ?_⟩) ?_
    rotate_left 1
    · (rintro v ⟨a0, a1⟩; go_simp; try with_reducible rfl)
    try simp only [Act.put]
    refine wpAnyL_take (i := 1) (v := ?_) rfl rfl (by kernel_rfl) (by kernel_rfl) (by kernel_rfl) (by kernel_rfl) (by kernel_rfl) (fun _ _ _ h => h) HF (Or.inl ⟨by rfl, ?_⟩) ?_
    rotate_left 1
    · (rintro v ⟨a0, a1⟩; go_simp; try with_reducible rfl)
    try simp only [Act.put]
    refine wpAnyL_take (i := 2) (v := ?_) rfl rfl (by kernel_rfl) (by kernel_rfl) (by kernel_rfl) (by kernel_rfl) (by kernel_rfl) (fun _ _ _ h => h) HF (Or.inl ⟨by rfl, ?_⟩) ?_
    rotate_left 1
    · (rintro v ⟨a0, a1⟩; go_simp; try with_reducible rfl)
    try simp only [Act.put]
    refine wpAnyL_take (i := 3) (v := ?_) rfl rfl (by kernel_rfl) (by kernel_rfl) (by kernel_rfl) (by kernel_rfl) (by kernel_rfl) (fun _ _ _ h => h) HF (Or.inl ⟨by rfl, ?_⟩) ?_
    rotate_left 1
    · (rintro v ⟨a0, a1⟩; go_simp; try with_reducible rfl)
    try simp only [Act.put]
    refine wpAnyL_take (i := 4) (v := ?_) rfl rfl (by kernel_rfl) (by kernel_rfl) (by kernel_rfl) (by kernel_rfl) (by kernel_rfl) (fun _ _ _ h => h) HF (Or.inl ⟨by rfl, ?_⟩) ?_
    rotate_left 1
    · (rintro v ⟨a0, a1⟩; go_simp; try with_reducible rfl)
    try simp only [Act.put]
    refine wpAnyL_take (i := 5) (v := ?_) rfl rfl (by kernel_rfl) (by kernel_rfl) (by kernel_rfl) (by kernel_rfl) (by kernel_rfl) (fun _ _ _ h => h) HF (Or.inl ⟨by rfl, ?_⟩) ?_
    rotate_left 1
    · (rintro v ⟨a0, a1⟩; go_simp; try with_reducible rfl)
    try simp only [Act.put]
    refine wpAnyL_take (i := 6) (v := ?_) rfl rfl (by kernel_rfl) (by kernel_rfl) (by kernel_rfl) (by kernel_rfl) (by kernel_rfl) (fun _ _ _ h => h) HF (Or.inl ⟨by rfl, ?_⟩) ?_
    rotate_left 1
    · (rintro v ⟨a0, a1⟩; go_simp; try with_reducible rfl)
    try simp only [Act.put]
    refine wpAnyL_take (i := 7) (v := ?_) rfl rfl (by kernel_rfl) (by kernel_rfl) (by kernel_rfl) (by kernel_rfl) (by kernel_rfl) (fun _ _ _ h => h) HF (Or.inl ⟨by rfl, ?_⟩) ?_
    rotate_left 1
    · (rintro v ⟨a0, a1⟩; go_simp; try with_reducible rfl)
    try simp only [Act.put]
    refine wpAnyL_step (i := 8) (by kernel_rfl) rfl rfl ?_
    intro K hK
    go_simp
    refine (iEntsFrom_any _ (n - 2) 0 B k (d.drop 2) _ ((HIR _).below (c.mono hB)) (Nat.le_trans hB c.size) (by have := HK.out; omega) hk5 (by omega) (by unfold maxLen; omega)).mono ?_
    rintro e w2 ⟨G, m, gc, rfl, o, b2⟩
    obtain ⟨fp_u, S'⟩ := S.has b2 o c.size
    replace c := c.trans (b2.mono c.size)
    clear S; have S := S'; clear S' o b2
    clear HF
    have HF : w2.cell? ⟨b, off, none⟩ = some (.int .i64 x0) ∧ w2.cell? ⟨b, off + 1, none⟩ = some (.int .i64 x1) := ⟨(c.cell (p := ⟨b, off, none⟩) (show b < _ by omega)).trans k0, (c.cell (p := ⟨b, off + 1, none⟩) (show b < _ by omega)).trans k1⟩
    refine hK _ _ (fun _ => HF) ?_
    clear hK K
    try simp only [Act.put]
    refine wpAnyL_take (i := 9) (v := ?_) rfl rfl (by kernel_rfl) (by kernel_rfl) (by kernel_rfl) (by kernel_rfl) (by kernel_rfl) (fun _ _ _ h => h) HF (Or.inl ⟨by rfl, ?_⟩) ?_
    rotate_left 1
    · (rintro v ⟨a0, a1⟩; go_simp; try with_reducible rfl)
    try simp only [Act.put]
    refine wpAnyL_take (i := 10) (v := ?_) rfl rfl (by kernel_rfl) (by kernel_rfl) (by kernel_rfl) (by kernel_rfl) (by kernel_rfl) (fun _ _ _ h => h) HF (Or.inl ⟨by rfl, ?_⟩) ?_
    rotate_left 1
    · (rintro v ⟨a0, a1⟩; go_simp; try with_reducible rfl)
    try simp only [Act.put]
    refine wpAnyL_step (i := 11) (by kernel_rfl) rfl rfl ?_
    intro K hK
    go_simp
    refine hK _ _ (fun h => nomatch (show true = false from h)) ?_
    clear hK K
    try simp only [Act.put]
    refine wpAnyL_done (by kernel_rfl) ?_ _
    have H := Lib.hid S.first
    have C := Lib.hid c
    clear S c HF
    go_wp2
    go_ret
    exact ⟨_, _, _, rfl, H.out, C.out⟩
  case neg =>
    have S := Sep.nil w w.heap.size
    have c := Below.refl w.heap.size w
    have HIR : IRow w B (some ⟨b, off + 2, none⟩) (n - 2) (d.drop 2) := by
      by_cases hk0 : k = 0
      · have e7 : n - 2 = 0 := by omega
        rw [e7]
        exact IRow.emptyL (by rw [List.length_drop, HH.out.1]; omega)
      · exact HH.out.dropL (m := 2) (by omega)
    clear hk
    go_enter Try.func60, Try.ntmps60
    go_wp2_with fail
    refine wp_region_L (fun v => v.cell? ⟨b, off, none⟩ = some (.int .i64 x0) ∧ v.cell? ⟨b, off + 1, none⟩ = some (.int .i64 x1)) 11 (by kernel_rfl) ?_
    replace S := S.keep ((Below.refl _ _).drew)
    replace c := c.drew
    generalize w.drew = w1 at *
    have HF : w1.cell? ⟨b, off, none⟩ = some (.int .i64 x0) ∧ w1.cell? ⟨b, off + 1, none⟩ = some (.int .i64 x1) := ⟨(c.cell (p := ⟨b, off, none⟩) (show b < _ by omega)).trans k0, (c.cell (p := ⟨b, off + 1, none⟩) (show b < _ by omega)).trans k1⟩
    refine wpAnyL_take (i := 0) (v := ?_) rfl rfl (by kernel_rfl) (by kernel_rfl) (by kernel_rfl) (by kernel_rfl) (by kernel_rfl) (fun _ _ _ h => h) HF (Or.inl ⟨by rfl, ?_⟩) ?_
    rotate_left 1
    · (rintro v ⟨a0, a1⟩; go_simp; try with_reducible rfl)
    try simp only [Act.put]
    refine wpAnyL_take (i := 1) (v := ?_) rfl rfl (by kernel_rfl) (by kernel_rfl) (by kernel_rfl) (by kernel_rfl) (by kernel_rfl) (fun _ _ _ h => h) HF (Or.inl ⟨by rfl, ?_⟩) ?_
    rotate_left 1
    · (rintro v ⟨a0, a1⟩; go_simp; try with_reducible rfl)
    try simp only [Act.put]
    refine wpAnyL_take (i := 2) (v := ?_) rfl rfl (by kernel_rfl) (by kernel_rfl) (by kernel_rfl) (by kernel_rfl) (by kernel_rfl) (fun _ _ _ h => h) HF (Or.inl ⟨by rfl, ?_⟩) ?_
    rotate_left 1
    · (rintro v ⟨a0, a1⟩; go_simp; try with_reducible rfl)
    try simp only [Act.put]
    refine wpAnyL_take (i := 3) (v := ?_) rfl rfl (by kernel_rfl) (by kernel_rfl) (by kernel_rfl) (by kernel_rfl) (by kernel_rfl) (fun _ _ _ h => h) HF (Or.inl ⟨by rfl, ?_⟩) ?_
    rotate_left 1
    · (rintro v ⟨a0, a1⟩; go_simp; try with_reducible rfl)
    try simp only [Act.put]
    refine wpAnyL_take (i := 4) (v := ?_) rfl rfl (by kernel_rfl) (by kernel_rfl) (by kernel_rfl) (by kernel_rfl) (by kernel_rfl) (fun _ _ _ h => h) HF (Or.inl ⟨by rfl, ?_⟩) ?_
    rotate_left 1
    · (rintro v ⟨a0, a1⟩; go_simp; try with_reducible rfl)
    try simp only [Act.put]
    refine wpAnyL_take (i := 5) (v := ?_) rfl rfl (by kernel_rfl) (by kernel_rfl) (by kernel_rfl) (by kernel_rfl) (by kernel_rfl) (fun _ _ _ h => h) HF (Or.inl ⟨by rfl, ?_⟩) ?_
    rotate_left 1
    · (rintro v ⟨a0, a1⟩; go_simp; try with_reducible rfl)
    try simp only [Act.put]
    refine wpAnyL_take (i := 6) (v := ?_) rfl rfl (by kernel_rfl) (by kernel_rfl) (by kernel_rfl) (by kernel_rfl) (by kernel_rfl) (fun _ _ _ h => h) HF (Or.inl ⟨by rfl, ?_⟩) ?_
    rotate_left 1
    · (rintro v ⟨a0, a1⟩; go_simp; try with_reducible rfl)
    try simp only [Act.put]
    refine wpAnyL_take (i := 7) (v := ?_) rfl rfl (by kernel_rfl) (by kernel_rfl) (by kernel_rfl) (by kernel_rfl) (by kernel_rfl) (fun _ _ _ h => h) HF (Or.inl ⟨by rfl, ?_⟩) ?_
    rotate_left 1
    · (rintro v ⟨a0, a1⟩; go_simp; try with_reducible rfl)
    try simp only [Act.put]
    refine wpAnyL_step (i := 8) (by kernel_rfl) rfl rfl ?_
    intro K hK
    go_simp
    refine (iEntsFrom_any _ (n - 2) (cc - 2) B k (d.drop 2) _ (HIR.below (c.mono hB)) (Nat.le_trans hB c.size) (by have := HK.out; omega) hk5 (by omega) (by unfold maxLen; omega)).mono ?_
    rintro e w2 ⟨G, m, gc, rfl, o, b2⟩
    obtain ⟨fp_u, S'⟩ := S.has b2 o c.size
    replace c := c.trans (b2.mono c.size)
    clear S; have S := S'; clear S' o b2
    clear HF
    have HF : w2.cell? ⟨b, off, none⟩ = some (.int .i64 x0) ∧ w2.cell? ⟨b, off + 1, none⟩ = some (.int .i64 x1) := ⟨(c.cell (p := ⟨b, off, none⟩) (show b < _ by omega)).trans k0, (c.cell (p := ⟨b, off + 1, none⟩) (show b < _ by omega)).trans k1⟩
    refine hK _ _ (fun _ => HF) ?_
    clear hK K
    try simp only [Act.put]
    refine wpAnyL_take (i := 9) (v := ?_) rfl rfl (by kernel_rfl) (by kernel_rfl) (by kernel_rfl) (by kernel_rfl) (by kernel_rfl) (fun _ _ _ h => h) HF (Or.inl ⟨by rfl, ?_⟩) ?_
    rotate_left 1
    · (rintro v ⟨a0, a1⟩; go_simp; try with_reducible rfl)
    try simp only [Act.put]
    refine wpAnyL_take (i := 10) (v := ?_) rfl rfl (by kernel_rfl) (by kernel_rfl) (by kernel_rfl) (by kernel_rfl) (by kernel_rfl) (fun _ _ _ h => h) HF (Or.inl ⟨by rfl, ?_⟩) ?_
    rotate_left 1
    · (rintro v ⟨a0, a1⟩; go_simp; try with_reducible rfl)
    try simp only [Act.put]
    refine wpAnyL_step (i := 11) (by kernel_rfl) rfl rfl ?_
    intro K hK
    go_simp
    refine hK _ _ (fun h => nomatch (show true = false from h)) ?_
    clear hK K
    try simp only [Act.put]
    refine wpAnyL_done (by kernel_rfl) ?_ _
    have H := Lib.hid S.first
    have C := Lib.hid c
    clear S c HF
    go_wp2
    go_ret
    exact ⟨_, _, _, rfl, H.out, C.out⟩

set_option maxHeartbeats 12800000 in
theorem iLetOf_jobs (b off n cc B k : Nat) (d : List Int) (w : World) (h : IRow w B (some ⟨b, off, none⟩) n d) (hB : B ≤ w.heap.size) (hk : n = 5 + 2 * k) (hk5 : k ≤ 24) (hnc : n ≤ cc) (hcm : cc ≤ maxLen) :
    Calls Try.prog 60 #[.int .i64 9, .slice (some ⟨b, off, none⟩) n cc] w fun e w' => ∃ (G : Option Addr) (m gc : Nat), e = .returned (.iface 25 (.agg #[.int .i64 (d.getD 0 0), .int .i64 (d.getD 1 0), .int .i64 (d.getD 2 0), .int .i64 (d.getD 3 0), .int .i64 (d.getD 4 0), .slice G m gc])) ∧ Has w' w.heap.size [djD (duesFrom (d.drop 5) k)] [.slice G m gc] ∧ Below w.heap.size w w' := by
  have HCM := Lib.hid hcm
  unfold maxLen at hcm
  obtain ⟨b', off', e, hb, hc⟩ := h.2 (by omega)
  injection e with e
  injection e with e1 e2
  subst e1 e2
  obtain ⟨x0, hx0⟩ : ∃ x, x = d.getD 0 0 := ⟨_, rfl⟩
  have k0 := hc 0 (by omega)
  rw [← hx0] at k0
  have hi0 : (0 : Int) < (n : Int) := by omega
  have hin0 : 0 < n := by omega
  obtain ⟨x1, hx1⟩ : ∃ x, x = d.getD 1 0 := ⟨_, rfl⟩
  have k1 := hc 1 (by omega)
  rw [← hx1] at k1
  have hi1 : (1 : Int) < (n : Int) := by omega
  have hin1 : 1 < n := by omega
  obtain ⟨x2, hx2⟩ : ∃ x, x = d.getD 2 0 := ⟨_, rfl⟩
  have k2 := hc 2 (by omega)
  rw [← hx2] at k2
  have hi2 : (2 : Int) < (n : Int) := by omega
  have hin2 : 2 < n := by omega
  obtain ⟨x3, hx3⟩ : ∃ x, x = d.getD 3 0 := ⟨_, rfl⟩
  have k3 := hc 3 (by omega)
  rw [← hx3] at k3
  have hi3 : (3 : Int) < (n : Int) := by omega
  have hin3 : 3 < n := by omega
  obtain ⟨x4, hx4⟩ : ∃ x, x = d.getD 4 0 := ⟨_, rfl⟩
  have k4 := hc 4 (by omega)
  rw [← hx4] at k4
  have hi4 : (4 : Int) < (n : Int) := by omega
  have hin4 : 4 < n := by omega
  rw [Nat.add_zero] at k0
  rw [← hx0, ← hx1, ← hx2, ← hx3, ← hx4]
  have hsl : (5 : Int) ≤ (n : Int) := by omega
  have hsc : (5 : Int) ≤ (cc : Int) := by omega
  have hsln : 5 ≤ n := by omega
  have hscn : 5 ≤ cc := by omega
  have HK := Lib.hid hk
  have HH := Lib.hid h
  clear hc h hx0 hx1 hx2 hx3 hx4
  by_cases hcc : cc = 5
  case pos =>
    have S := Sep.nil w w.heap.size
    have c := Below.refl w.heap.size w
    have hk0 : k = 0 := by omega
    have HIR : ∀ Z : Option Addr, IRow w B Z (n - 5) (d.drop 5) := fun Z => by
      have e7 : n - 5 = 0 := by omega
      rw [e7]
      exact IRow.emptyL (by rw [List.length_drop, HH.out.1]; omega)
    clear hk
    go_enter Try.func60, Try.ntmps60
    go_wp2_with fail
    refine wp_region_L (fun v => v.cell? ⟨b, off, none⟩ = some (.int .i64 x0) ∧ v.cell? ⟨b, off + 1, none⟩ = some (.int .i64 x1) ∧ v.cell? ⟨b, off + 2, none⟩ = some (.int .i64 x2) ∧ v.cell? ⟨b, off + 3, none⟩ = some (.int .i64 x3) ∧ v.cell? ⟨b, off + 4, none⟩ = some (.int .i64 x4)) 20 (by kernel_rfl) ?_
    replace S := S.keep ((Below.refl _ _).drew)
    replace c := c.drew
    generalize w.drew = w1 at *
    have HF : w1.cell? ⟨b, off, none⟩ = some (.int .i64 x0) ∧ w1.cell? ⟨b, off + 1, none⟩ = some (.int .i64 x1) ∧ w1.cell? ⟨b, off + 2, none⟩ = some (.int .i64 x2) ∧ w1.cell? ⟨b, off + 3, none⟩ = some (.int .i64 x3) ∧ w1.cell? ⟨b, off + 4, none⟩ = some (.int .i64 x4) := ⟨(c.cell (p := ⟨b, off, none⟩) (show b < _ by omega)).trans k0, (c.cell (p := ⟨b, off + 1, none⟩) (show b < _ by omega)).trans k1, (c.cell (p := ⟨b, off + 2, none⟩) (show b < _ by omega)).trans k2, (c.cell (p := ⟨b, off + 3, none⟩) (show b < _ by omega)).trans k3, (c.cell (p := ⟨b, off + 4, none⟩) (show b < _ by omega)).trans k4⟩
    refine wpAnyL_take (i := 0) (v := ?_) rfl rfl (by kernel_rfl) (by kernel_rfl) (by kernel_rfl) (by kernel_rfl) (by kernel_rfl) (fun _ _ _ h => h) HF (Or.inl ⟨by rfl, ?_⟩) ?_
    rotate_left 1
    · (rintro v ⟨a0, a1, a2, a3, a4⟩; go_simp; try with_reducible rfl)
    try simp only [Act.put]
    refine wpAnyL_take (i := 1) (v := ?_) rfl rfl (by kernel_rfl) (by kernel_rfl) (by kernel_rfl) (by kernel_rfl) (by kernel_rfl) (fun _ _ _ h => h) HF (Or.inl ⟨by rfl, ?_⟩) ?_
    rotate_left 1
    · (rintro v ⟨a0, a1, a2, a3, a4⟩; go_simp; try with_reducible rfl)
    try simp only [Act.put]
    refine wpAnyL_take (i := 2) (v := ?_) rfl rfl (by kernel_rfl) (by kernel_rfl) (by kernel_rfl) (by kernel_rfl) (by kernel_rfl) (fun _ _ _ h => h) HF (Or.inl ⟨by rfl, ?_⟩) ?_
    rotate_left 1
    · (rintro v ⟨a0, a1, a2, a3, a4⟩; go_simp; try with_reducible rfl)
    try simp only [Act.put]
    refine wpAnyL_take (i := 3) (v := ?_) rfl rfl (by kernel_rfl) (by kernel_rfl) (by kernel_rfl) (by kernel_rfl) (by kernel_rfl) (fun _ _ _ h => h) HF (Or.inl ⟨by rfl, ?_⟩) ?_
    rotate_left 1
    · (rintro v ⟨a0, a1, a2, a3, a4⟩; go_simp; try with_reducible rfl)
    try simp only [Act.put]
    refine wpAnyL_take (i := 4) (v := ?_) rfl rfl (by kernel_rfl) (by kernel_rfl) (by kernel_rfl) (by kernel_rfl) (by kernel_rfl) (fun _ _ _ h => h) HF (Or.inl ⟨by rfl, ?_⟩) ?_
    rotate_left 1
    · (rintro v ⟨a0, a1, a2, a3, a4⟩; go_simp; try with_reducible rfl)
    try simp only [Act.put]
    refine wpAnyL_take (i := 5) (v := ?_) rfl rfl (by kernel_rfl) (by kernel_rfl) (by kernel_rfl) (by kernel_rfl) (by kernel_rfl) (fun _ _ _ h => h) HF (Or.inl ⟨by rfl, ?_⟩) ?_
    rotate_left 1
    · (rintro v ⟨a0, a1, a2, a3, a4⟩; go_simp; try with_reducible rfl)
    try simp only [Act.put]
    refine wpAnyL_take (i := 6) (v := ?_) rfl rfl (by kernel_rfl) (by kernel_rfl) (by kernel_rfl) (by kernel_rfl) (by kernel_rfl) (fun _ _ _ h => h) HF (Or.inl ⟨by rfl, ?_⟩) ?_
    rotate_left 1
    · (rintro v ⟨a0, a1, a2, a3, a4⟩; go_simp; try with_reducible rfl)
    try simp only [Act.put]
    refine wpAnyL_take (i := 7) (v := ?_) rfl rfl (by kernel_rfl) (by kernel_rfl) (by kernel_rfl) (by kernel_rfl) (by kernel_rfl) (fun _ _ _ h => h) HF (Or.inl ⟨by rfl, ?_⟩) ?_
    rotate_left 1
    · (rintro v ⟨a0, a1, a2, a3, a4⟩; go_simp; try with_reducible rfl)
    try simp only [Act.put]
    refine wpAnyL_take (i := 8) (v := ?_) rfl rfl (by kernel_rfl) (by kernel_rfl) (by kernel_rfl) (by kernel_rfl) (by kernel_rfl) (fun _ _ _ h => h) HF (Or.inl ⟨by rfl, ?_⟩) ?_
    rotate_left 1
    · (rintro v ⟨a0, a1, a2, a3, a4⟩; go_simp; try with_reducible rfl)
    try simp only [Act.put]
    refine wpAnyL_take (i := 9) (v := ?_) rfl rfl (by kernel_rfl) (by kernel_rfl) (by kernel_rfl) (by kernel_rfl) (by kernel_rfl) (fun _ _ _ h => h) HF (Or.inl ⟨by rfl, ?_⟩) ?_
    rotate_left 1
    · (rintro v ⟨a0, a1, a2, a3, a4⟩; go_simp; try with_reducible rfl)
    try simp only [Act.put]
    refine wpAnyL_take (i := 10) (v := ?_) rfl rfl (by kernel_rfl) (by kernel_rfl) (by kernel_rfl) (by kernel_rfl) (by kernel_rfl) (fun _ _ _ h => h) HF (Or.inl ⟨by rfl, ?_⟩) ?_
    rotate_left 1
    · (rintro v ⟨a0, a1, a2, a3, a4⟩; go_simp; try with_reducible rfl)
    try simp only [Act.put]
    refine wpAnyL_take (i := 11) (v := ?_) rfl rfl (by kernel_rfl) (by kernel_rfl) (by kernel_rfl) (by kernel_rfl) (by kernel_rfl) (fun _ _ _ h => h) HF (Or.inl ⟨by rfl, ?_⟩) ?_
    rotate_left 1
    · (rintro v ⟨a0, a1, a2, a3, a4⟩; go_simp; try with_reducible rfl)
    try simp only [Act.put]
    refine wpAnyL_take (i := 12) (v := ?_) rfl rfl (by kernel_rfl) (by kernel_rfl) (by kernel_rfl) (by kernel_rfl) (by kernel_rfl) (fun _ _ _ h => h) HF (Or.inl ⟨by rfl, ?_⟩) ?_
    rotate_left 1
    · (rintro v ⟨a0, a1, a2, a3, a4⟩; go_simp; try with_reducible rfl)
    try simp only [Act.put]
    refine wpAnyL_take (i := 13) (v := ?_) rfl rfl (by kernel_rfl) (by kernel_rfl) (by kernel_rfl) (by kernel_rfl) (by kernel_rfl) (fun _ _ _ h => h) HF (Or.inl ⟨by rfl, ?_⟩) ?_
    rotate_left 1
    · (rintro v ⟨a0, a1, a2, a3, a4⟩; go_simp; try with_reducible rfl)
    try simp only [Act.put]
    refine wpAnyL_take (i := 14) (v := ?_) rfl rfl (by kernel_rfl) (by kernel_rfl) (by kernel_rfl) (by kernel_rfl) (by kernel_rfl) (fun _ _ _ h => h) HF (Or.inl ⟨by rfl, ?_⟩) ?_
    rotate_left 1
    · (rintro v ⟨a0, a1, a2, a3, a4⟩; go_simp; try with_reducible rfl)
    try simp only [Act.put]
    refine wpAnyL_take (i := 15) (v := ?_) rfl rfl (by kernel_rfl) (by kernel_rfl) (by kernel_rfl) (by kernel_rfl) (by kernel_rfl) (fun _ _ _ h => h) HF (Or.inl ⟨by rfl, ?_⟩) ?_
    rotate_left 1
    · (rintro v ⟨a0, a1, a2, a3, a4⟩; go_simp; try with_reducible rfl)
    try simp only [Act.put]
    refine wpAnyL_take (i := 16) (v := ?_) rfl rfl (by kernel_rfl) (by kernel_rfl) (by kernel_rfl) (by kernel_rfl) (by kernel_rfl) (fun _ _ _ h => h) HF (Or.inl ⟨by rfl, ?_⟩) ?_
    rotate_left 1
    · (rintro v ⟨a0, a1, a2, a3, a4⟩; go_simp; try with_reducible rfl)
    try simp only [Act.put]
    refine wpAnyL_step (i := 17) (by kernel_rfl) rfl rfl ?_
    intro K hK
    go_simp
    refine (iOpenFrom_any _ (n - 5) 0 B k (d.drop 5) _ ((HIR _).below (c.mono hB)) (Nat.le_trans hB c.size) (by have := HK.out; omega) hk5 (by omega) (by unfold maxLen; omega)).mono ?_
    rintro e w2 ⟨G, m, gc, rfl, o, b2⟩
    obtain ⟨fp_u, S'⟩ := S.has b2 o c.size
    replace c := c.trans (b2.mono c.size)
    clear S; have S := S'; clear S' o b2
    clear HF
    have HF : w2.cell? ⟨b, off, none⟩ = some (.int .i64 x0) ∧ w2.cell? ⟨b, off + 1, none⟩ = some (.int .i64 x1) ∧ w2.cell? ⟨b, off + 2, none⟩ = some (.int .i64 x2) ∧ w2.cell? ⟨b, off + 3, none⟩ = some (.int .i64 x3) ∧ w2.cell? ⟨b, off + 4, none⟩ = some (.int .i64 x4) := ⟨(c.cell (p := ⟨b, off, none⟩) (show b < _ by omega)).trans k0, (c.cell (p := ⟨b, off + 1, none⟩) (show b < _ by omega)).trans k1, (c.cell (p := ⟨b, off + 2, none⟩) (show b < _ by omega)).trans k2, (c.cell (p := ⟨b, off + 3, none⟩) (show b < _ by omega)).trans k3, (c.cell (p := ⟨b, off + 4, none⟩) (show b < _ by omega)).trans k4⟩
    refine hK _ _ (fun _ => HF) ?_
    clear hK K
    try simp only [Act.put]
    refine wpAnyL_take (i := 18) (v := ?_) rfl rfl (by kernel_rfl) (by kernel_rfl) (by kernel_rfl) (by kernel_rfl) (by kernel_rfl) (fun _ _ _ h => h) HF (Or.inl ⟨by rfl, ?_⟩) ?_
    rotate_left 1
    · (rintro v ⟨a0, a1, a2, a3, a4⟩; go_simp; try with_reducible rfl)
    try simp only [Act.put]
    refine wpAnyL_take (i := 19) (v := ?_) rfl rfl (by kernel_rfl) (by kernel_rfl) (by kernel_rfl) (by kernel_rfl) (by kernel_rfl) (fun _ _ _ h => h) HF (Or.inl ⟨by rfl, ?_⟩) ?_
    rotate_left 1
    · (rintro v ⟨a0, a1, a2, a3, a4⟩; go_simp; try with_reducible rfl)
    try simp only [Act.put]
    refine wpAnyL_step (i := 20) (by kernel_rfl) rfl rfl ?_
    intro K hK
    go_simp
    refine hK _ _ (fun h => nomatch (show true = false from h)) ?_
    clear hK K
    try simp only [Act.put]
    refine wpAnyL_done (by kernel_rfl) ?_ _
    have H := Lib.hid S.first
    have C := Lib.hid c
    clear S c HF
    go_wp2
    go_ret
    exact ⟨_, _, _, rfl, H.out, C.out⟩
  case neg =>
    have S := Sep.nil w w.heap.size
    have c := Below.refl w.heap.size w
    have HIR : IRow w B (some ⟨b, off + 5, none⟩) (n - 5) (d.drop 5) := by
      by_cases hk0 : k = 0
      · have e7 : n - 5 = 0 := by omega
        rw [e7]
        exact IRow.emptyL (by rw [List.length_drop, HH.out.1]; omega)
      · exact HH.out.dropL (m := 5) (by omega)
    clear hk
    go_enter Try.func60, Try.ntmps60
    go_wp2_with fail
    refine wp_region_L (fun v => v.cell? ⟨b, off, none⟩ = some (.int .i64 x0) ∧ v.cell? ⟨b, off + 1, none⟩ = some (.int .i64 x1) ∧ v.cell? ⟨b, off + 2, none⟩ = some (.int .i64 x2) ∧ v.cell? ⟨b, off + 3, none⟩ = some (.int .i64 x3) ∧ v.cell? ⟨b, off + 4, none⟩ = some (.int .i64 x4)) 20 (by kernel_rfl) ?_
    replace S := S.keep ((Below.refl _ _).drew)
    replace c := c.drew
    generalize w.drew = w1 at *
    have HF : w1.cell? ⟨b, off, none⟩ = some (.int .i64 x0) ∧ w1.cell? ⟨b, off + 1, none⟩ = some (.int .i64 x1) ∧ w1.cell? ⟨b, off + 2, none⟩ = some (.int .i64 x2) ∧ w1.cell? ⟨b, off + 3, none⟩ = some (.int .i64 x3) ∧ w1.cell? ⟨b, off + 4, none⟩ = some (.int .i64 x4) := ⟨(c.cell (p := ⟨b, off, none⟩) (show b < _ by omega)).trans k0, (c.cell (p := ⟨b, off + 1, none⟩) (show b < _ by omega)).trans k1, (c.cell (p := ⟨b, off + 2, none⟩) (show b < _ by omega)).trans k2, (c.cell (p := ⟨b, off + 3, none⟩) (show b < _ by omega)).trans k3, (c.cell (p := ⟨b, off + 4, none⟩) (show b < _ by omega)).trans k4⟩
    refine wpAnyL_take (i := 0) (v := ?_) rfl rfl (by kernel_rfl) (by kernel_rfl) (by kernel_rfl) (by kernel_rfl) (by kernel_rfl) (fun _ _ _ h => h) HF (Or.inl ⟨by rfl, ?_⟩) ?_
    rotate_left 1
    · (rintro v ⟨a0, a1, a2, a3, a4⟩; go_simp; try with_reducible rfl)
    try simp only [Act.put]
    refine wpAnyL_take (i := 1) (v := ?_) rfl rfl (by kernel_rfl) (by kernel_rfl) (by kernel_rfl) (by kernel_rfl) (by kernel_rfl) (fun _ _ _ h => h) HF (Or.inl ⟨by rfl, ?_⟩) ?_
    rotate_left 1
    · (rintro v ⟨a0, a1, a2, a3, a4⟩; go_simp; try with_reducible rfl)
    try simp only [Act.put]
    refine wpAnyL_take (i := 2) (v := ?_) rfl rfl (by kernel_rfl) (by kernel_rfl) (by kernel_rfl) (by kernel_rfl) (by kernel_rfl) (fun _ _ _ h => h) HF (Or.inl ⟨by rfl, ?_⟩) ?_
    rotate_left 1
    · (rintro v ⟨a0, a1, a2, a3, a4⟩; go_simp; try with_reducible rfl)
    try simp only [Act.put]
    refine wpAnyL_take (i := 3) (v := ?_) rfl rfl (by kernel_rfl) (by kernel_rfl) (by kernel_rfl) (by kernel_rfl) (by kernel_rfl) (fun _ _ _ h => h) HF (Or.inl ⟨by rfl, ?_⟩) ?_
    rotate_left 1
    · (rintro v ⟨a0, a1, a2, a3, a4⟩; go_simp; try with_reducible rfl)
    try simp only [Act.put]
    refine wpAnyL_take (i := 4) (v := ?_) rfl rfl (by kernel_rfl) (by kernel_rfl) (by kernel_rfl) (by kernel_rfl) (by kernel_rfl) (fun _ _ _ h => h) HF (Or.inl ⟨by rfl, ?_⟩) ?_
    rotate_left 1
    · (rintro v ⟨a0, a1, a2, a3, a4⟩; go_simp; try with_reducible rfl)
    try simp only [Act.put]
    refine wpAnyL_take (i := 5) (v := ?_) rfl rfl (by kernel_rfl) (by kernel_rfl) (by kernel_rfl) (by kernel_rfl) (by kernel_rfl) (fun _ _ _ h => h) HF (Or.inl ⟨by rfl, ?_⟩) ?_
    rotate_left 1
    · (rintro v ⟨a0, a1, a2, a3, a4⟩; go_simp; try with_reducible rfl)
    try simp only [Act.put]
    refine wpAnyL_take (i := 6) (v := ?_) rfl rfl (by kernel_rfl) (by kernel_rfl) (by kernel_rfl) (by kernel_rfl) (by kernel_rfl) (fun _ _ _ h => h) HF (Or.inl ⟨by rfl, ?_⟩) ?_
    rotate_left 1
    · (rintro v ⟨a0, a1, a2, a3, a4⟩; go_simp; try with_reducible rfl)
    try simp only [Act.put]
    refine wpAnyL_take (i := 7) (v := ?_) rfl rfl (by kernel_rfl) (by kernel_rfl) (by kernel_rfl) (by kernel_rfl) (by kernel_rfl) (fun _ _ _ h => h) HF (Or.inl ⟨by rfl, ?_⟩) ?_
    rotate_left 1
    · (rintro v ⟨a0, a1, a2, a3, a4⟩; go_simp; try with_reducible rfl)
    try simp only [Act.put]
    refine wpAnyL_take (i := 8) (v := ?_) rfl rfl (by kernel_rfl) (by kernel_rfl) (by kernel_rfl) (by kernel_rfl) (by kernel_rfl) (fun _ _ _ h => h) HF (Or.inl ⟨by rfl, ?_⟩) ?_
    rotate_left 1
    · (rintro v ⟨a0, a1, a2, a3, a4⟩; go_simp; try with_reducible rfl)
    try simp only [Act.put]
    refine wpAnyL_take (i := 9) (v := ?_) rfl rfl (by kernel_rfl) (by kernel_rfl) (by kernel_rfl) (by kernel_rfl) (by kernel_rfl) (fun _ _ _ h => h) HF (Or.inl ⟨by rfl, ?_⟩) ?_
    rotate_left 1
    · (rintro v ⟨a0, a1, a2, a3, a4⟩; go_simp; try with_reducible rfl)
    try simp only [Act.put]
    refine wpAnyL_take (i := 10) (v := ?_) rfl rfl (by kernel_rfl) (by kernel_rfl) (by kernel_rfl) (by kernel_rfl) (by kernel_rfl) (fun _ _ _ h => h) HF (Or.inl ⟨by rfl, ?_⟩) ?_
    rotate_left 1
    · (rintro v ⟨a0, a1, a2, a3, a4⟩; go_simp; try with_reducible rfl)
    try simp only [Act.put]
    refine wpAnyL_take (i := 11) (v := ?_) rfl rfl (by kernel_rfl) (by kernel_rfl) (by kernel_rfl) (by kernel_rfl) (by kernel_rfl) (fun _ _ _ h => h) HF (Or.inl ⟨by rfl, ?_⟩) ?_
    rotate_left 1
    · (rintro v ⟨a0, a1, a2, a3, a4⟩; go_simp; try with_reducible rfl)
    try simp only [Act.put]
    refine wpAnyL_take (i := 12) (v := ?_) rfl rfl (by kernel_rfl) (by kernel_rfl) (by kernel_rfl) (by kernel_rfl) (by kernel_rfl) (fun _ _ _ h => h) HF (Or.inl ⟨by rfl, ?_⟩) ?_
    rotate_left 1
    · (rintro v ⟨a0, a1, a2, a3, a4⟩; go_simp; try with_reducible rfl)
    try simp only [Act.put]
    refine wpAnyL_take (i := 13) (v := ?_) rfl rfl (by kernel_rfl) (by kernel_rfl) (by kernel_rfl) (by kernel_rfl) (by kernel_rfl) (fun _ _ _ h => h) HF (Or.inl ⟨by rfl, ?_⟩) ?_
    rotate_left 1
    · (rintro v ⟨a0, a1, a2, a3, a4⟩; go_simp; try with_reducible rfl)
    try simp only [Act.put]
    refine wpAnyL_take (i := 14) (v := ?_) rfl rfl (by kernel_rfl) (by kernel_rfl) (by kernel_rfl) (by kernel_rfl) (by kernel_rfl) (fun _ _ _ h => h) HF (Or.inl ⟨by rfl, ?_⟩) ?_
    rotate_left 1
    · (rintro v ⟨a0, a1, a2, a3, a4⟩; go_simp; try with_reducible rfl)
    try simp only [Act.put]
    refine wpAnyL_take (i := 15) (v := ?_) rfl rfl (by kernel_rfl) (by kernel_rfl) (by kernel_rfl) (by kernel_rfl) (by kernel_rfl) (fun _ _ _ h => h) HF (Or.inl ⟨by rfl, ?_⟩) ?_
    rotate_left 1
    · (rintro v ⟨a0, a1, a2, a3, a4⟩; go_simp; try with_reducible rfl)
    try simp only [Act.put]
    refine wpAnyL_take (i := 16) (v := ?_) rfl rfl (by kernel_rfl) (by kernel_rfl) (by kernel_rfl) (by kernel_rfl) (by kernel_rfl) (fun _ _ _ h => h) HF (Or.inl ⟨by rfl, ?_⟩) ?_
    rotate_left 1
    · (rintro v ⟨a0, a1, a2, a3, a4⟩; go_simp; try with_reducible rfl)
    try simp only [Act.put]
    refine wpAnyL_step (i := 17) (by kernel_rfl) rfl rfl ?_
    intro K hK
    go_simp
    refine (iOpenFrom_any _ (n - 5) (cc - 5) B k (d.drop 5) _ (HIR.below (c.mono hB)) (Nat.le_trans hB c.size) (by have := HK.out; omega) hk5 (by omega) (by unfold maxLen; omega)).mono ?_
    rintro e w2 ⟨G, m, gc, rfl, o, b2⟩
    obtain ⟨fp_u, S'⟩ := S.has b2 o c.size
    replace c := c.trans (b2.mono c.size)
    clear S; have S := S'; clear S' o b2
    clear HF
    have HF : w2.cell? ⟨b, off, none⟩ = some (.int .i64 x0) ∧ w2.cell? ⟨b, off + 1, none⟩ = some (.int .i64 x1) ∧ w2.cell? ⟨b, off + 2, none⟩ = some (.int .i64 x2) ∧ w2.cell? ⟨b, off + 3, none⟩ = some (.int .i64 x3) ∧ w2.cell? ⟨b, off + 4, none⟩ = some (.int .i64 x4) := ⟨(c.cell (p := ⟨b, off, none⟩) (show b < _ by omega)).trans k0, (c.cell (p := ⟨b, off + 1, none⟩) (show b < _ by omega)).trans k1, (c.cell (p := ⟨b, off + 2, none⟩) (show b < _ by omega)).trans k2, (c.cell (p := ⟨b, off + 3, none⟩) (show b < _ by omega)).trans k3, (c.cell (p := ⟨b, off + 4, none⟩) (show b < _ by omega)).trans k4⟩
    refine hK _ _ (fun _ => HF) ?_
    clear hK K
    try simp only [Act.put]
    refine wpAnyL_take (i := 18) (v := ?_) rfl rfl (by kernel_rfl) (by kernel_rfl) (by kernel_rfl) (by kernel_rfl) (by kernel_rfl) (fun _ _ _ h => h) HF (Or.inl ⟨by rfl, ?_⟩) ?_
    rotate_left 1
    · (rintro v ⟨a0, a1, a2, a3, a4⟩; go_simp; try with_reducible rfl)
    try simp only [Act.put]
    refine wpAnyL_take (i := 19) (v := ?_) rfl rfl (by kernel_rfl) (by kernel_rfl) (by kernel_rfl) (by kernel_rfl) (by kernel_rfl) (fun _ _ _ h => h) HF (Or.inl ⟨by rfl, ?_⟩) ?_
    rotate_left 1
    · (rintro v ⟨a0, a1, a2, a3, a4⟩; go_simp; try with_reducible rfl)
    try simp only [Act.put]
    refine wpAnyL_step (i := 20) (by kernel_rfl) rfl rfl ?_
    intro K hK
    go_simp
    refine hK _ _ (fun h => nomatch (show true = false from h)) ?_
    clear hK K
    try simp only [Act.put]
    refine wpAnyL_done (by kernel_rfl) ?_ _
    have H := Lib.hid S.first
    have C := Lib.hid c
    clear S c HF
    go_wp2
    go_ret
    exact ⟨_, _, _, rfl, H.out, C.out⟩

end Go.Proofs.Ytepnghjmpbfmcaa

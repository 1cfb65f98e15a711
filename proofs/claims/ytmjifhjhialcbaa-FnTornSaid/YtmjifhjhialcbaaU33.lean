/- Parts of my texts: HeadI3. -/
import Derived.Test.YtmjifhjhialcbaaU31
import Derived.Test.YtmjifhjhialcbaaU32
namespace Go.Proofs.Ytmjifhjhialcbaa
set_option maxRecDepth 100000
set_option linter.unusedVariables false
open Go.RowKit
set_option maxHeartbeats 6400000 in
theorem iSlotRow_any (x0 x1 x2 x3 x4 x5 x6 x7 x8 : Int) (w : World) :
    Calls Try.prog 9 #[.agg #[.int .i64 x0, .int .i64 x1, .int .i64 x2, .int .i64 x3, .int .i64 x4, .int .i64 x5, .int .i64 x6, .int .i64 x7, .int .i64 x8]] w fun e w' => ∃ (A : Option Addr) (n c : Nat), e = .returned (.slice A n c) ∧ (slotRowM ⟨x0, x1, x2, x3, x4, x5, x6, x7, x8⟩ = [] → A = none) ∧ Has w' w.heap.size (rowCells (slotRowM ⟨x0, x1, x2, x3, x4, x5, x6, x7, x8⟩)) [.slice A n c] ∧ Below w.heap.size w w' := by
 have S := Sep.nil w w.heap.size
 have c := Below.refl w.heap.size w
 replace S := S.boxAt c.size (w.heap.size) rfl #[.int .i64 x0, .int .i64 x1, .int .i64 x2, .int .i64 x3, .int .i64 x4, .int .i64 x5, .int .i64 x6, .int .i64 x7, .int .i64 x8] 35
 replace c := al c S
 go_enter Try.func9, Try.ntmps9
 have f0 := lk S 0 0 rfl rfl
 have f1 := lk S 0 1 rfl rfl
 have f2 := lk S 0 2 rfl rfl
 have f3 := lk S 0 3 rfl rfl
 have f4 := lk S 0 4 rfl rfl
 have f5 := lk S 0 5 rfl rfl
 have f6 := lk S 0 6 rfl rfl
 have f7 := lk S 0 7 rfl rfl
 have f8 := lk S 0 8 rfl rfl
 go_wp2_with fail
 generalize w.alloc (.cells #[.int .i64 x0, .int .i64 x1, .int .i64 x2, .int .i64 x3, .int .i64 x4, .int .i64 x5, .int .i64 x6, .int .i64 x7, .int .i64 x8] 35) = w1 at *
 refine (iEntryOk_any x0 x1 x2 x3 x4 x5 x6 x7 x8 _).mono ?_
 rintro e w2 ⟨rfl, b⟩
 replace c := c.trans (b.mono c.size)
 replace S := S.keep b
 clear b f0 f1 f2 f3 f4 f5 f6 f7 f8
 cases hok : entB ⟨x0, x1, x2, x3, x4, x5, x6, x7, x8⟩
 case false =>
  have HV := jd (show slotRowM ⟨x0, x1, x2, x3, x4, x5, x6, x7, x8⟩ = [] by unfold slotRowM; rw [hok]; rfl)
  have C := jd c
  clear S c hok
  go_wp2
  go_ret
  exact ⟨_, _, _, rfl, fun _ => rfl, by rw [HV.out]; exact has_nil_rowE _ _, C.out⟩
 case true =>
  have HR := jd (show entRowM ⟨x0, x1, x2, x3, x4, x5, x6, x7, x8⟩ = [x0, x1, x2, x3, x4, x5, x6, x7, x8] by unfold entRowM; rw [if_pos hok]; rfl)
  have HV := jd (show slotRowM ⟨x0, x1, x2, x3, x4, x5, x6, x7, x8⟩ = [x0, x1, x2, x3, x4, x5, x6, x7, x8] ++ [x0, x0] by unfold slotRowM; rw [if_pos hok]; rfl)
  clear hok
  go_wp2_with fail
  refine wp_region_L (fun v => v.cell? ⟨w.heap.size, 0, none⟩ = some (.int .i64 x0) ∧ v.cell? ⟨w.heap.size, 1, none⟩ = some (.int .i64 x1) ∧ v.cell? ⟨w.heap.size, 2, none⟩ = some (.int .i64 x2) ∧ v.cell? ⟨w.heap.size, 3, none⟩ = some (.int .i64 x3) ∧ v.cell? ⟨w.heap.size, 4, none⟩ = some (.int .i64 x4) ∧ v.cell? ⟨w.heap.size, 5, none⟩ = some (.int .i64 x5) ∧ v.cell? ⟨w.heap.size, 6, none⟩ = some (.int .i64 x6) ∧ v.cell? ⟨w.heap.size, 7, none⟩ = some (.int .i64 x7) ∧ v.cell? ⟨w.heap.size, 8, none⟩ = some (.int .i64 x8)) 8 (by kernel_rfl) ?_
  replace S := S.keep ((Below.refl _ _).drew)
  replace c := c.drew
  generalize w2.drew = w3 at *
  have HF : w3.cell? ⟨w.heap.size, 0, none⟩ = some (.int .i64 x0) ∧ w3.cell? ⟨w.heap.size, 1, none⟩ = some (.int .i64 x1) ∧ w3.cell? ⟨w.heap.size, 2, none⟩ = some (.int .i64 x2) ∧ w3.cell? ⟨w.heap.size, 3, none⟩ = some (.int .i64 x3) ∧ w3.cell? ⟨w.heap.size, 4, none⟩ = some (.int .i64 x4) ∧ w3.cell? ⟨w.heap.size, 5, none⟩ = some (.int .i64 x5) ∧ w3.cell? ⟨w.heap.size, 6, none⟩ = some (.int .i64 x6) ∧ w3.cell? ⟨w.heap.size, 7, none⟩ = some (.int .i64 x7) ∧ w3.cell? ⟨w.heap.size, 8, none⟩ = some (.int .i64 x8) := ⟨(S.at_ 0 rfl).cell 0, (S.at_ 0 rfl).cell 1, (S.at_ 0 rfl).cell 2, (S.at_ 0 rfl).cell 3, (S.at_ 0 rfl).cell 4, (S.at_ 0 rfl).cell 5, (S.at_ 0 rfl).cell 6, (S.at_ 0 rfl).cell 7, (S.at_ 0 rfl).cell 8⟩
  refine tk 0 (v := ?_) rfl rfl HF (.inl ⟨by rfl, ?_⟩) ?_
  rotate_left 1
  · (rintro v ⟨a0, a1, a2, a3, a4, a5, a6, a7, a8⟩; go_simp; try with_reducible rfl)
  try simp only [Act.put]
  refine tk 2 (v := ?_) rfl rfl HF (.inl ⟨by rfl, ?_⟩) ?_
  rotate_left 1
  · (rintro v ⟨a0, a1, a2, a3, a4, a5, a6, a7, a8⟩; go_simp; try with_reducible rfl)
  try simp only [Act.put]
  refine tk 3 (v := ?_) rfl rfl HF (.inl ⟨by rfl, ?_⟩) ?_
  rotate_left 1
  · (rintro v ⟨a0, a1, a2, a3, a4, a5, a6, a7, a8⟩; go_simp; try with_reducible rfl)
  try simp only [Act.put]
  refine tk 4 (v := ?_) rfl rfl HF (.inl ⟨by rfl, ?_⟩) ?_
  rotate_left 1
  · (rintro v ⟨a0, a1, a2, a3, a4, a5, a6, a7, a8⟩; go_simp; try with_reducible rfl)
  try simp only [Act.put]
  refine tk 5 (v := ?_) rfl rfl HF (.inl ⟨by rfl, ?_⟩) ?_
  rotate_left 1
  · (rintro v ⟨a0, a1, a2, a3, a4, a5, a6, a7, a8⟩; go_simp; try with_reducible rfl)
  try simp only [Act.put]
  refine wpAnyL_two (i := 1) (k := 6) (by kernel_rfl) rfl rfl rfl rfl ?_ ?_
  · intro K hK
    go_simp
    refine (iEntryRow_any x0 x1 x2 x3 x4 x5 x6 x7 x8 _).mono ?_
    rintro e w4 ⟨A2, n2, c2, rfl, o, b⟩
    obtain ⟨fp_u, S'⟩ := S.has b o c.size
    replace c := c.trans (b.mono c.size)
    clear S; have S := S'; clear S' o b
    rw [HR.out] at S
    clear HF
    have HF : w4.cell? ⟨w.heap.size, 0, none⟩ = some (.int .i64 x0) ∧ w4.cell? ⟨w.heap.size, 1, none⟩ = some (.int .i64 x1) ∧ w4.cell? ⟨w.heap.size, 2, none⟩ = some (.int .i64 x2) ∧ w4.cell? ⟨w.heap.size, 3, none⟩ = some (.int .i64 x3) ∧ w4.cell? ⟨w.heap.size, 4, none⟩ = some (.int .i64 x4) ∧ w4.cell? ⟨w.heap.size, 5, none⟩ = some (.int .i64 x5) ∧ w4.cell? ⟨w.heap.size, 6, none⟩ = some (.int .i64 x6) ∧ w4.cell? ⟨w.heap.size, 7, none⟩ = some (.int .i64 x7) ∧ w4.cell? ⟨w.heap.size, 8, none⟩ = some (.int .i64 x8) := ⟨(S.at_ 1 rfl).cell 0, (S.at_ 1 rfl).cell 1, (S.at_ 1 rfl).cell 2, (S.at_ 1 rfl).cell 3, (S.at_ 1 rfl).cell 4, (S.at_ 1 rfl).cell 5, (S.at_ 1 rfl).cell 6, (S.at_ 1 rfl).cell 7, (S.at_ 1 rfl).cell 8⟩
    refine hK _ _ (fun _ => HF) ?_
    clear hK K
    try simp only [Act.put]
    refine wpAnyL_step (i := 6) (by kernel_rfl) rfl rfl ?_
    intro K hK
    go_simp
    obtain ⟨fp_lit, S'⟩ := S.has ((Below.refl _ _).alloc (Nat.le_refl _) _) (show Has (w4.alloc (.cells #[.int .i64 x0, .int .i64 x0] 2)) w4.heap.size (rowCells [x0, x0]) [.slice (some ⟨w4.heap.size, 0, none⟩) 2 2] from has_lit w4 [x0, x0] (by simp)) c.size
    replace c := c.alloc c.size (.cells #[.int .i64 x0, .int .i64 x0] 2)
    clear S; have S := S'; clear S'
    clear HF
    have HF : (w4.alloc (.cells #[.int .i64 x0, .int .i64 x0] 2)).cell? ⟨w.heap.size, 0, none⟩ = some (.int .i64 x0) ∧ (w4.alloc (.cells #[.int .i64 x0, .int .i64 x0] 2)).cell? ⟨w.heap.size, 1, none⟩ = some (.int .i64 x1) ∧ (w4.alloc (.cells #[.int .i64 x0, .int .i64 x0] 2)).cell? ⟨w.heap.size, 2, none⟩ = some (.int .i64 x2) ∧ (w4.alloc (.cells #[.int .i64 x0, .int .i64 x0] 2)).cell? ⟨w.heap.size, 3, none⟩ = some (.int .i64 x3) ∧ (w4.alloc (.cells #[.int .i64 x0, .int .i64 x0] 2)).cell? ⟨w.heap.size, 4, none⟩ = some (.int .i64 x4) ∧ (w4.alloc (.cells #[.int .i64 x0, .int .i64 x0] 2)).cell? ⟨w.heap.size, 5, none⟩ = some (.int .i64 x5) ∧ (w4.alloc (.cells #[.int .i64 x0, .int .i64 x0] 2)).cell? ⟨w.heap.size, 6, none⟩ = some (.int .i64 x6) ∧ (w4.alloc (.cells #[.int .i64 x0, .int .i64 x0] 2)).cell? ⟨w.heap.size, 7, none⟩ = some (.int .i64 x7) ∧ (w4.alloc (.cells #[.int .i64 x0, .int .i64 x0] 2)).cell? ⟨w.heap.size, 8, none⟩ = some (.int .i64 x8) := ⟨(S.at_ 2 rfl).cell 0, (S.at_ 2 rfl).cell 1, (S.at_ 2 rfl).cell 2, (S.at_ 2 rfl).cell 3, (S.at_ 2 rfl).cell 4, (S.at_ 2 rfl).cell 5, (S.at_ 2 rfl).cell 6, (S.at_ 2 rfl).cell 7, (S.at_ 2 rfl).cell 8⟩
    refine hK _ _ (fun _ => HF) ?_
    clear hK K
    try simp only [Act.put]
    generalize hw : w4.alloc (.cells #[.int .i64 x0, .int .i64 x0] 2) = w5 at *
    clear hw
    have hsr := Rd.src (f := fun y : Int => [Dat.int y]) (g := fun y : Int => [y]) (l := [x0, x0]) (e := 2) (k := 1) int_flat (fun _ => rfl) (by decide) (S.own_ 0 rfl).rd
    have hsu := Rd.src (f := fun y : Int => [Dat.int y]) (g := fun y : Int => [y]) (l := [x0, x1, x2, x3, x4, x5, x6, x7, x8]) (e := 2) (k := 1) int_flat (fun _ => rfl) (by decide) (S.own_ 1 rfl).rd
    have hn2 : n2 = 9 := hsu.2.symm
    clear hsu
    subst hn2
    replace S := S.pick 1 rfl
    replace S := (S.flat (f := fun y : Int => [Dat.int y]) (g := fun y : Int => [y]) int_flat [x0, x0]).swap
    refine wpAnyL_step (i := 7) (by kernel_rfl) rfl rfl ?_
    intro K hK
    refine wp_append_many (f := fun y : Int => [Dat.int y]) (k := 1) (l := [x0, x1, x2, x3, x4, x5, x6, x7, x8]) (l2 := [x0, x0]) _ _ (by rfl) Try.underlying30 info64 (by rfl) (by decide) (fun _ => rfl) (by rfl) (S.own_ 0 rfl) (S.nodup_own 0 rfl) (by rfl) hsr.1 (S.own_ 1 rfl) hsr.2 (S.nodup_own 1 rfl) S.apart (by omega) (by omega) ?_
    intro A3 c3 w6 fp3 o3 n3 s3 t3
    have S' := S.merge t3 o3 n3 s3 c.size
    replace c := c.trans (S.below 0 rfl t3 c.size)
    clear S; have S := S'; clear S' o3 n3 s3 t3 hsr
    clear HF
    have HF : w6.cell? ⟨w.heap.size, 0, none⟩ = some (.int .i64 x0) ∧ w6.cell? ⟨w.heap.size, 1, none⟩ = some (.int .i64 x1) ∧ w6.cell? ⟨w.heap.size, 2, none⟩ = some (.int .i64 x2) ∧ w6.cell? ⟨w.heap.size, 3, none⟩ = some (.int .i64 x3) ∧ w6.cell? ⟨w.heap.size, 4, none⟩ = some (.int .i64 x4) ∧ w6.cell? ⟨w.heap.size, 5, none⟩ = some (.int .i64 x5) ∧ w6.cell? ⟨w.heap.size, 6, none⟩ = some (.int .i64 x6) ∧ w6.cell? ⟨w.heap.size, 7, none⟩ = some (.int .i64 x7) ∧ w6.cell? ⟨w.heap.size, 8, none⟩ = some (.int .i64 x8) := ⟨(S.at_ 2 rfl).cell 0, (S.at_ 2 rfl).cell 1, (S.at_ 2 rfl).cell 2, (S.at_ 2 rfl).cell 3, (S.at_ 2 rfl).cell 4, (S.at_ 2 rfl).cell 5, (S.at_ 2 rfl).cell 6, (S.at_ 2 rfl).cell 7, (S.at_ 2 rfl).cell 8⟩
    refine hK _ _ (fun _ => HF) ?_
    clear hK K
    try simp only [Act.put]
    refine wpAnyL_step (i := 8) (by kernel_rfl) rfl rfl ?_
    intro K hK
    go_simp
    refine hK _ _ (fun h => nomatch (show true = false from h)) ?_
    clear hK K
    try simp only [Act.put]
    refine wpAnyL_done (by kernel_rfl) ?_ _
    have H := jd S.first
    have C := jd c
    clear S c HF
    go_wp2
    go_ret
    exact ⟨_, _, _, rfl, fun h9 => absurd h9 (by rw [HV.out]; simp), by rw [HV.out]; exact H.out, C.out⟩
  · intro K hK
    go_simp
    obtain ⟨fp_lit, S'⟩ := S.has ((Below.refl _ _).alloc (Nat.le_refl _) _) (show Has (w3.alloc (.cells #[.int .i64 x0, .int .i64 x0] 2)) w3.heap.size (rowCells [x0, x0]) [.slice (some ⟨w3.heap.size, 0, none⟩) 2 2] from has_lit w3 [x0, x0] (by simp)) c.size
    replace c := c.alloc c.size (.cells #[.int .i64 x0, .int .i64 x0] 2)
    clear S; have S := S'; clear S'
    clear HF
    have HF : (w3.alloc (.cells #[.int .i64 x0, .int .i64 x0] 2)).cell? ⟨w.heap.size, 0, none⟩ = some (.int .i64 x0) ∧ (w3.alloc (.cells #[.int .i64 x0, .int .i64 x0] 2)).cell? ⟨w.heap.size, 1, none⟩ = some (.int .i64 x1) ∧ (w3.alloc (.cells #[.int .i64 x0, .int .i64 x0] 2)).cell? ⟨w.heap.size, 2, none⟩ = some (.int .i64 x2) ∧ (w3.alloc (.cells #[.int .i64 x0, .int .i64 x0] 2)).cell? ⟨w.heap.size, 3, none⟩ = some (.int .i64 x3) ∧ (w3.alloc (.cells #[.int .i64 x0, .int .i64 x0] 2)).cell? ⟨w.heap.size, 4, none⟩ = some (.int .i64 x4) ∧ (w3.alloc (.cells #[.int .i64 x0, .int .i64 x0] 2)).cell? ⟨w.heap.size, 5, none⟩ = some (.int .i64 x5) ∧ (w3.alloc (.cells #[.int .i64 x0, .int .i64 x0] 2)).cell? ⟨w.heap.size, 6, none⟩ = some (.int .i64 x6) ∧ (w3.alloc (.cells #[.int .i64 x0, .int .i64 x0] 2)).cell? ⟨w.heap.size, 7, none⟩ = some (.int .i64 x7) ∧ (w3.alloc (.cells #[.int .i64 x0, .int .i64 x0] 2)).cell? ⟨w.heap.size, 8, none⟩ = some (.int .i64 x8) := ⟨(S.at_ 1 rfl).cell 0, (S.at_ 1 rfl).cell 1, (S.at_ 1 rfl).cell 2, (S.at_ 1 rfl).cell 3, (S.at_ 1 rfl).cell 4, (S.at_ 1 rfl).cell 5, (S.at_ 1 rfl).cell 6, (S.at_ 1 rfl).cell 7, (S.at_ 1 rfl).cell 8⟩
    refine hK _ _ (fun _ => HF) ?_
    clear hK K
    try simp only [Act.put]
    generalize hw : w3.alloc (.cells #[.int .i64 x0, .int .i64 x0] 2) = w4 at *
    clear hw
    refine wpAnyL_step (i := 1) (by kernel_rfl) rfl rfl ?_
    intro K hK
    go_simp
    refine (iEntryRow_any x0 x1 x2 x3 x4 x5 x6 x7 x8 _).mono ?_
    rintro e w5 ⟨A2, n2, c2, rfl, o, b⟩
    obtain ⟨fp_u, S'⟩ := S.has b o c.size
    replace c := c.trans (b.mono c.size)
    clear S; have S := S'; clear S' o b
    rw [HR.out] at S
    clear HF
    have HF : w5.cell? ⟨w.heap.size, 0, none⟩ = some (.int .i64 x0) ∧ w5.cell? ⟨w.heap.size, 1, none⟩ = some (.int .i64 x1) ∧ w5.cell? ⟨w.heap.size, 2, none⟩ = some (.int .i64 x2) ∧ w5.cell? ⟨w.heap.size, 3, none⟩ = some (.int .i64 x3) ∧ w5.cell? ⟨w.heap.size, 4, none⟩ = some (.int .i64 x4) ∧ w5.cell? ⟨w.heap.size, 5, none⟩ = some (.int .i64 x5) ∧ w5.cell? ⟨w.heap.size, 6, none⟩ = some (.int .i64 x6) ∧ w5.cell? ⟨w.heap.size, 7, none⟩ = some (.int .i64 x7) ∧ w5.cell? ⟨w.heap.size, 8, none⟩ = some (.int .i64 x8) := ⟨(S.at_ 2 rfl).cell 0, (S.at_ 2 rfl).cell 1, (S.at_ 2 rfl).cell 2, (S.at_ 2 rfl).cell 3, (S.at_ 2 rfl).cell 4, (S.at_ 2 rfl).cell 5, (S.at_ 2 rfl).cell 6, (S.at_ 2 rfl).cell 7, (S.at_ 2 rfl).cell 8⟩
    refine hK _ _ (fun _ => HF) ?_
    clear hK K
    try simp only [Act.put]
    have hsr := Rd.src (f := fun y : Int => [Dat.int y]) (g := fun y : Int => [y]) (l := [x0, x0]) (e := 2) (k := 1) int_flat (fun _ => rfl) (by decide) (S.own_ 1 rfl).rd
    have hsu := Rd.src (f := fun y : Int => [Dat.int y]) (g := fun y : Int => [y]) (l := [x0, x1, x2, x3, x4, x5, x6, x7, x8]) (e := 2) (k := 1) int_flat (fun _ => rfl) (by decide) (S.own_ 0 rfl).rd
    have hn2 : n2 = 9 := hsu.2.symm
    clear hsu
    subst hn2
    replace S := S.pick 0 rfl
    replace S := (S.flat (f := fun y : Int => [Dat.int y]) (g := fun y : Int => [y]) int_flat [x0, x0]).swap
    refine wpAnyL_step (i := 7) (by kernel_rfl) rfl rfl ?_
    intro K hK
    refine wp_append_many (f := fun y : Int => [Dat.int y]) (k := 1) (l := [x0, x1, x2, x3, x4, x5, x6, x7, x8]) (l2 := [x0, x0]) _ _ (by rfl) Try.underlying30 info64 (by rfl) (by decide) (fun _ => rfl) (by rfl) (S.own_ 0 rfl) (S.nodup_own 0 rfl) (by rfl) hsr.1 (S.own_ 1 rfl) hsr.2 (S.nodup_own 1 rfl) S.apart (by omega) (by omega) ?_
    intro A3 c3 w6 fp3 o3 n3 s3 t3
    have S' := S.merge t3 o3 n3 s3 c.size
    replace c := c.trans (S.below 0 rfl t3 c.size)
    clear S; have S := S'; clear S' o3 n3 s3 t3 hsr
    clear HF
    have HF : w6.cell? ⟨w.heap.size, 0, none⟩ = some (.int .i64 x0) ∧ w6.cell? ⟨w.heap.size, 1, none⟩ = some (.int .i64 x1) ∧ w6.cell? ⟨w.heap.size, 2, none⟩ = some (.int .i64 x2) ∧ w6.cell? ⟨w.heap.size, 3, none⟩ = some (.int .i64 x3) ∧ w6.cell? ⟨w.heap.size, 4, none⟩ = some (.int .i64 x4) ∧ w6.cell? ⟨w.heap.size, 5, none⟩ = some (.int .i64 x5) ∧ w6.cell? ⟨w.heap.size, 6, none⟩ = some (.int .i64 x6) ∧ w6.cell? ⟨w.heap.size, 7, none⟩ = some (.int .i64 x7) ∧ w6.cell? ⟨w.heap.size, 8, none⟩ = some (.int .i64 x8) := ⟨(S.at_ 2 rfl).cell 0, (S.at_ 2 rfl).cell 1, (S.at_ 2 rfl).cell 2, (S.at_ 2 rfl).cell 3, (S.at_ 2 rfl).cell 4, (S.at_ 2 rfl).cell 5, (S.at_ 2 rfl).cell 6, (S.at_ 2 rfl).cell 7, (S.at_ 2 rfl).cell 8⟩
    refine hK _ _ (fun _ => HF) ?_
    clear hK K
    try simp only [Act.put]
    refine wpAnyL_step (i := 8) (by kernel_rfl) rfl rfl ?_
    intro K hK
    go_simp
    refine hK _ _ (fun h => nomatch (show true = false from h)) ?_
    clear hK K
    try simp only [Act.put]
    refine wpAnyL_done (by kernel_rfl) ?_ _
    have H := jd S.first
    have C := jd c
    clear S c HF
    go_wp2
    go_ret
    exact ⟨_, _, _, rfl, fun h9 => absurd h9 (by rw [HV.out]; simp), by rw [HV.out]; exact H.out, C.out⟩
set_option maxHeartbeats 6400000 in
theorem iHeadRow_any (x0 x1 x2 : Int) (A : Option Addr) (n cc B : Nat) (l : List MarkM) (w : World) (h : Rd w B [mrkD l] [.slice A n cc]) (hB : B ≤ w.heap.size) (hs : mrkSz l ≤ 1048577) :
    Calls Try.prog 10 #[.agg #[.int .i64 x0, .int .i64 x1, .int .i64 x2, .slice A n cc]] w fun e w' => ∃ (A2 : Option Addr) (n2 c2 : Nat), e = .returned (.slice A2 n2 c2) ∧ (headRowM ⟨x0, x1, x2, l⟩ = [] → A2 = none) ∧ Has w' w.heap.size (rowCells (headRowM ⟨x0, x1, x2, l⟩)) [.slice A2 n2 c2] ∧ Below w.heap.size w w' := by
 have HH := jd h
 clear h
 have S := Sep.nil w w.heap.size
 have c := Below.refl w.heap.size w
 replace S := S.boxAt c.size (w.heap.size) rfl #[.int .i64 x0, .int .i64 x1, .int .i64 x2, .slice A n cc] 40
 replace c := al c S
 go_enter Try.func10, Try.ntmps10
 have f0 := lk S 0 0 rfl rfl
 have f1 := lk S 0 1 rfl rfl
 have f2 := lk S 0 2 rfl rfl
 have f3 := lk S 0 3 rfl rfl
 go_wp2_with fail
 generalize w.alloc (.cells #[.int .i64 x0, .int .i64 x1, .int .i64 x2, .slice A n cc] 40) = w1 at *
 refine (iHeadOk_any x0 x1 x2 A n cc B l _ (HH.out.keep (c.mono hB)) (Nat.le_trans hB c.size) hs).mono ?_
 rintro e w2 ⟨rfl, b2⟩
 replace c := c.trans (b2.mono c.size)
 replace S := S.keep b2
 clear b2 f0 f1 f2 f3
 cases hok : headOkB ⟨x0, x1, x2, l⟩
 case false =>
  have HV := jd (show headRowM ⟨x0, x1, x2, l⟩ = [] by unfold headRowM; rw [hok]; rfl)
  have C := jd c
  clear S c hok
  go_wp2
  go_ret
  exact ⟨_, _, _, rfl, fun _ => rfl, by rw [HV.out]; exact has_nil_rowE _ _, C.out⟩
 case true =>
  have HV := jd (show headRowM ⟨x0, x1, x2, l⟩ = ([x0, x1, x2] ++ markNs l 4) ++ [x0, x0] by unfold headRowM; rw [if_pos hok])
  clear hok
  have f4 := lk S 0 0 rfl rfl
  have f5 := lk S 0 1 rfl rfl
  have f6 := lk S 0 2 rfl rfl
  have f7 := lk S 0 3 rfl rfl
  obtain ⟨fp_out, S'⟩ := S.has ((Below.refl _ _).alloc (Nat.le_refl _) _) (show Has (w2.alloc (.cells #[.int .i64 x0, .int .i64 x1, .int .i64 x2] 2)) w2.heap.size (rowCells ([x0, x1, x2] ++ markNs l 0)) [.slice (some ⟨w2.heap.size, 0, none⟩) 3 3] from has_lit w2 [x0, x1, x2] (by simp)) c.size
  replace c := c.alloc c.size (.cells #[.int .i64 x0, .int .i64 x1, .int .i64 x2] 2)
  clear S; have S := S'; clear S'
  go_wp2
  generalize w2.alloc (.cells #[.int .i64 x0, .int .i64 x1, .int .i64 x2] 2) = w3 at *
  clear f4 f5 f6 f7
  have S0 := jd S
  have B0 := jd c
  clear S c
  go_loopw [3, 4] (fun u k wr => ∃ (j : Nat) (G : Option Addr) (m gc : Nat) (fp : List Nat), j ≤ 4 ∧ k = .int .i64 (2 + (j : Int)) ∧ u = .slice G m gc ∧ m = 3 + 2 * j ∧ Sep wr w.heap.size [.own (rowCells ([x0, x1, x2] ++ markNs l j)) [.slice G m gc] fp, .blk w.heap.size #[.int .i64 x0, .int .i64 x1, .int .i64 x2, .slice A n cc] 40] ∧ Below w.heap.size w wr) (fun _ k _ => 6 - (intOf k).toNat)
  case atStart => exact ⟨0, _, _, _, _, Nat.zero_le _, rfl, rfl, rfl, S0.out, B0.out⟩
  case round =>
   obtain ⟨j, G, m, gc, fp, hj, rfl, rfl, hm, S, c⟩ := hrel
   clear S0 B0
   have hm11 : m ≤ 11 := by omega
   by_cases hlt : j < 4
   case neg =>
    obtain rfl : j = 4 := by omega
    have d0 : decide ((2 : Int) + ((4 : Nat) : Int) ≤ 5) = false := by decide
    clear hm hj hlt
    have f8 := lk S 1 0 rfl rfl
    have f9 := lk S 1 1 rfl rfl
    have f10 := lk S 1 2 rfl rfl
    have f11 := lk S 1 3 rfl rfl
    replace S := S.boxAt c.size (wr.heap.size) rfl #[.int .i64 x0, .int .i64 x0] 2
    replace c := al c S
    have hsr := ints_src (S.at_ 0 rfl)
    replace S := S.tail
    replace S := S.pick 0 rfl
    replace S := (S.flat (f := fun y : Int => [Dat.int y]) (g := fun y : Int => [y]) int_flat [x0, x0]).swap
    have hgc := jd c
    go_wp2_with (first
     | (at_builtin
        refine wpList_append_many (f := fun y : Int => [Dat.int y]) (k := 1) (l := [x0, x1, x2] ++ markNs l 4) (l2 := [x0, x0]) rfl (.tmp 31) (.tmp 36) (by rfl) Try.underlying30 info64 (by rfl) (by decide) (fun _ => rfl) (by rfl) (S.own_ 0 rfl) (S.nodup_own 0 rfl) (by rfl) hsr (S.own_ 1 rfl) rfl (S.nodup_own 1 rfl) S.apart (by omega) (by omega) ?_
        intro A3 c3 v3 fp3 o3 n3 s3 t3))
    have S3 := S.merge t3 o3 n3 s3 hgc.out.size
    have C3 := hgc.out.trans (S.below 0 rfl t3 hgc.out.size)
    clear S c o3 n3 s3 t3 hgc hsr
    have S := S3
    have c := C3
    clear S3 C3
    have HNE := jd (show headRowM ⟨x0, x1, x2, l⟩ ≠ [] by rw [HV.out]; simp)
    rw [← HV.out] at S
    have H := jd S.first
    have CC := jd c
    clear S c
    go_ret
    exact ⟨_, _, _, rfl, fun h9 => absurd h9 HNE.out, H.out, CC.out⟩
   case pos =>
    have d0 : decide ((2 : Int) + (j : Int) ≤ 5) = true := decide_eq_true (by omega)
    have HM := jd hm
    clear hm
    have f8 := lk S 1 0 rfl rfl
    have f9 := lk S 1 1 rfl rfl
    have f10 := lk S 1 2 rfl rfl
    have f11 := lk S 1 3 rfl rfl
    go_wp2_with fail
    refine (iMarkOf_any A n cc B l (2 + (j : Int)) _ (HH.out.keep (c.mono hB)) (Nat.le_trans hB c.size) hs).mono ?_
    rintro e w4 ⟨rfl, b2⟩
    replace c := c.trans (b2.mono c.size)
    replace S := S.keep b2
    clear b2 f8 f9 f10 f11
    obtain ⟨y0, hy0⟩ : ∃ q, q = (markOf l (2 + (j : Int))).mc := ⟨_, rfl⟩
    obtain ⟨y1, hy1⟩ : ∃ q, q = (markOf l (2 + (j : Int))).ms := ⟨_, rfl⟩
    obtain ⟨y2, hy2⟩ : ∃ q, q = (markOf l (2 + (j : Int))).mi := ⟨_, rfl⟩
    have HN := jd (show ([x0, x1, x2] ++ markNs l j) ++ [y1, y2] = [x0, x1, x2] ++ markNs l (j + 1) by rw [hy1, hy2, List.append_assoc]; rfl)
    rw [← hy0, ← hy1, ← hy2]
    clear hy0 hy1 hy2
    replace S := S.boxAt c.size (w4.heap.size) rfl #[.int .i64 y0, .int .i64 y1, .int .i64 y2] 76
    replace c := al c S
    have f12 := lk S 0 0 rfl rfl
    have f13 := lk S 0 1 rfl rfl
    have f14 := lk S 0 2 rfl rfl
    replace S := S.boxAt c.size (w4.heap.size + 1) (by simp) #[.int .i64 y1, .int .i64 y2] 2
    replace c := al c S
    have hsr := ints_src (S.at_ 0 rfl)
    replace S := S.tail
    replace S := S.pick 1 rfl
    replace S := (S.flat (f := fun y : Int => [Dat.int y]) (g := fun y : Int => [y]) int_flat [y1, y2]).swap
    have hgc := jd c
    go_wp2_with (first
     | (at_builtin
        refine wpList_append_many (f := fun y : Int => [Dat.int y]) (k := 1) (l := [x0, x1, x2] ++ markNs l j) (l2 := [y1, y2]) rfl (.tmp 24) (.tmp 29) (by rfl) Try.underlying30 info64 (by rfl) (by decide) (fun _ => rfl) (by rfl) (S.own_ 0 rfl) (S.nodup_own 0 rfl) (by rfl) hsr (S.own_ 1 rfl) rfl (S.nodup_own 1 rfl) S.apart (by omega) (by omega) ?_
        intro A3 c3 v3 fp3 o3 n3 s3 t3))
    have S3 := S.merge t3 o3 n3 s3 hgc.out.size
    have C3 := hgc.out.trans (S.below 0 rfl t3 hgc.out.size)
    clear S c o3 n3 s3 t3 hgc hsr
    have S := S3
    have c := C3
    clear S3 C3
    rw [HN.out] at S
    replace S := S.sub (.cons_cons _ (.cons _ (.cons_cons _ (List.nil_sublist _))))
    have SS := jd S
    have CC := jd c
    clear S c
    go_roundw
    case rel => exact ⟨j + 1, A3, m + 2, c3, fp3, by omega, by go_num, rfl, by have := HM.out; omega, SS.out, CC.out⟩
    case measure => simp [intOf] <;> omega
end Go.Proofs.Ytmjifhjhialcbaa

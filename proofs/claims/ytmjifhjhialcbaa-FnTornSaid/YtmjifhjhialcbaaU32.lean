/- Parts of my texts: EntI4. -/
import Derived.Test.YtmjifhjhialcbaaU29
namespace Go.Proofs.Ytmjifhjhialcbaa
set_option maxRecDepth 100000
set_option linter.unusedVariables false
open Go.RowKit
set_option maxHeartbeats 12800000 in
theorem iRowEnt_any (A : Option Addr) (n cc B : Nat) (d : List Int) (w : World) (h : IRow w B A n d) (hB : B ≤ w.heap.size) (hm : n ≤ maxLen) (hnc : n ≤ cc) :
    Calls Try.prog 45 #[.slice A n cc] w fun e w' => e = .returned (.tuple #[.agg #[.int .i64 (rowEntM d).1.idx, .int .i64 (rowEntM d).1.tm, .int .i64 (rowEntM d).1.cl, .int .i64 (rowEntM d).1.sq, .int .i64 (rowEntM d).1.kd, .int .i64 (rowEntM d).1.oa, .int .i64 (rowEntM d).1.ob, .int .i64 (rowEntM d).1.oc, .int .i64 (rowEntM d).1.od], .bool (rowEntM d).2]) ∧ Below w.heap.size w w' := by
 unfold maxLen at hm
 by_cases hn : n = 9
 case neg =>
  have S := Sep.nil w w.heap.size
  have c := Below.refl w.heap.size w
  replace S := S.boxAt c.size (w.heap.size) rfl #[.int .i64 0, .int .i64 0, .int .i64 0, .int .i64 0, .int .i64 0, .int .i64 0, .int .i64 0, .int .i64 0, .int .i64 0] 35
  replace c := al c S
  have HD := jd (show rowEntM d = (ent0, false) by unfold rowEntM; rw [if_neg (by rw [h.1]; exact hn)])
  have hn2 : ((n : Int) != 9) = true := by simp; omega
  have hn3 : ((n : Int) == 9) = false := by simp; omega
  clear h
  go_enter Try.func45, Try.ntmps45
  have C := jd c
  clear S c
  go_wp2
  exact bodyPost_ret (v := .tuple #[.agg #[.int .i64 0, .int .i64 0, .int .i64 0, .int .i64 0, .int .i64 0, .int .i64 0, .int .i64 0, .int .i64 0, .int .i64 0], .bool false]) (by simp [results, Try.results45, go_sem]) rfl ⟨by rw [HD.out]; rfl, C.out⟩
 case pos =>
  subst hn
  obtain ⟨b, off, rfl, hb, hc⟩ := h.2 (by omega)
  obtain ⟨x0, hx0⟩ : ∃ x, x = d.getD 0 0 := ⟨_, rfl⟩
  obtain ⟨x1, hx1⟩ : ∃ x, x = d.getD 1 0 := ⟨_, rfl⟩
  obtain ⟨x2, hx2⟩ : ∃ x, x = d.getD 2 0 := ⟨_, rfl⟩
  obtain ⟨x3, hx3⟩ : ∃ x, x = d.getD 3 0 := ⟨_, rfl⟩
  obtain ⟨x4, hx4⟩ : ∃ x, x = d.getD 4 0 := ⟨_, rfl⟩
  obtain ⟨x5, hx5⟩ : ∃ x, x = d.getD 5 0 := ⟨_, rfl⟩
  obtain ⟨x6, hx6⟩ : ∃ x, x = d.getD 6 0 := ⟨_, rfl⟩
  obtain ⟨x7, hx7⟩ : ∃ x, x = d.getD 7 0 := ⟨_, rfl⟩
  obtain ⟨x8, hx8⟩ : ∃ x, x = d.getD 8 0 := ⟨_, rfl⟩
  have k0 := hc 0 (by omega)
  rw [← hx0] at k0
  have k1 := hc 1 (by omega)
  rw [← hx1] at k1
  have k2 := hc 2 (by omega)
  rw [← hx2] at k2
  have k3 := hc 3 (by omega)
  rw [← hx3] at k3
  rw [Nat.add_zero] at k0
  have HO := jd (show ofEnt d = ⟨x0, x1, x2, x3, x4, x5, x6, x7, x8⟩ by unfold ofEnt; rw [hx0, hx1, hx2, hx3, hx4, hx5, hx6, hx7, hx8])
  have HL := jd h.1
  have HP := jd (show ofOp (d.drop 4) = ⟨x4, x5, x6, x7, x8⟩ by rw [hx4, hx5, hx6, hx7, hx8]; simp [ofOp, List.getD])
  have hdr := h.drop4
  have hcc : ¬ (cc = 4) := by omega
  have hc4 : (4 : Int) ≤ 9 := by decide
  clear hc h hx0 hx1 hx2 hx3 hx4 hx5 hx6 hx7 hx8
  have S := Sep.nil w w.heap.size
  have c := Below.refl w.heap.size w
  replace S := S.boxAt c.size (w.heap.size) rfl #[.int .i64 0, .int .i64 0, .int .i64 0, .int .i64 0, .int .i64 0, .int .i64 0, .int .i64 0, .int .i64 0, .int .i64 0] 35
  replace c := al c S
  go_enter Try.func45, Try.ntmps45
  go_wp2_with fail
  generalize w.alloc (.cells #[.int .i64 0, .int .i64 0, .int .i64 0, .int .i64 0, .int .i64 0, .int .i64 0, .int .i64 0, .int .i64 0, .int .i64 0] 35) = w1 at *
  refine wp_region_L (fun v => v.cell? ⟨b, off, none⟩ = some (.int .i64 x0) ∧ v.cell? ⟨b, off + 1, none⟩ = some (.int .i64 x1) ∧ v.cell? ⟨b, off + 2, none⟩ = some (.int .i64 x2) ∧ v.cell? ⟨b, off + 3, none⟩ = some (.int .i64 x3)) 17 (by kernel_rfl) ?_
  replace S := S.keep ((Below.refl _ _).drew)
  replace c := c.drew
  generalize w1.drew = w2 at *
  have HF : w2.cell? ⟨b, off, none⟩ = some (.int .i64 x0) ∧ w2.cell? ⟨b, off + 1, none⟩ = some (.int .i64 x1) ∧ w2.cell? ⟨b, off + 2, none⟩ = some (.int .i64 x2) ∧ w2.cell? ⟨b, off + 3, none⟩ = some (.int .i64 x3) := ⟨cu0z c k0 (show b < _ by omega), cu0z c k1 (show b < _ by omega), cu0z c k2 (show b < _ by omega), cu0z c k3 (show b < _ by omega)⟩
  refine tk 0 (v := ?_) rfl rfl HF (.inl ⟨by rfl, ?_⟩) ?_
  rotate_left 1
  · (rintro v ⟨a0, a1, a2, a3⟩; go_simp; try with_reducible rfl)
  try simp only [Act.put]
  refine tk 1 (v := ?_) rfl rfl HF (.inl ⟨by rfl, ?_⟩) ?_
  rotate_left 1
  · (rintro v ⟨a0, a1, a2, a3⟩; go_simp; try with_reducible rfl)
  try simp only [Act.put]
  refine tk 2 (v := ?_) rfl rfl HF (.inl ⟨by rfl, ?_⟩) ?_
  rotate_left 1
  · (rintro v ⟨a0, a1, a2, a3⟩; go_simp; try with_reducible rfl)
  try simp only [Act.put]
  refine tk 3 (v := ?_) rfl rfl HF (.inl ⟨by rfl, ?_⟩) ?_
  rotate_left 1
  · (rintro v ⟨a0, a1, a2, a3⟩; go_simp; try with_reducible rfl)
  try simp only [Act.put]
  refine tk 4 (v := ?_) rfl rfl HF (.inl ⟨by rfl, ?_⟩) ?_
  rotate_left 1
  · (rintro v ⟨a0, a1, a2, a3⟩; go_simp; try with_reducible rfl)
  try simp only [Act.put]
  refine tk 5 (v := ?_) rfl rfl HF (.inl ⟨by rfl, ?_⟩) ?_
  rotate_left 1
  · (rintro v ⟨a0, a1, a2, a3⟩; go_simp; try with_reducible rfl)
  try simp only [Act.put]
  refine tk 6 (v := ?_) rfl rfl HF (.inl ⟨by rfl, ?_⟩) ?_
  rotate_left 1
  · (rintro v ⟨a0, a1, a2, a3⟩; go_simp; try with_reducible rfl)
  try simp only [Act.put]
  refine tk 7 (v := ?_) rfl rfl HF (.inl ⟨by rfl, ?_⟩) ?_
  rotate_left 1
  · (rintro v ⟨a0, a1, a2, a3⟩; go_simp; try with_reducible rfl)
  try simp only [Act.put]
  refine tk 8 (v := ?_) rfl rfl HF (.inl ⟨by rfl, ?_⟩) ?_
  rotate_left 1
  · (rintro v ⟨a0, a1, a2, a3⟩; go_simp; try with_reducible rfl)
  try simp only [Act.put]
  refine tk 9 (v := ?_) rfl rfl HF (.inl ⟨by rfl, ?_⟩) ?_
  rotate_left 1
  · (rintro v ⟨a0, a1, a2, a3⟩; go_simp; try with_reducible rfl)
  try simp only [Act.put]
  refine tk 10 (v := ?_) rfl rfl HF (.inl ⟨by rfl, ?_⟩) ?_
  rotate_left 1
  · (rintro v ⟨a0, a1, a2, a3⟩; go_simp; try with_reducible rfl)
  try simp only [Act.put]
  refine tk 11 (v := ?_) rfl rfl HF (.inl ⟨by rfl, ?_⟩) ?_
  rotate_left 1
  · (rintro v ⟨a0, a1, a2, a3⟩; go_simp; try with_reducible rfl)
  try simp only [Act.put]
  refine tk 12 (v := ?_) rfl rfl HF (.inl ⟨by rfl, ?_⟩) ?_
  rotate_left 1
  · (rintro v ⟨a0, a1, a2, a3⟩; go_simp; try with_reducible rfl)
  try simp only [Act.put]
  refine tk 13 (v := ?_) rfl rfl HF (.inl ⟨by rfl, ?_⟩) ?_
  rotate_left 1
  · (rintro v ⟨a0, a1, a2, a3⟩; go_simp; try with_reducible rfl)
  try simp only [Act.put]
  refine wpAnyL_two (i := 14) (k := 16) (by kernel_rfl) rfl rfl rfl rfl ?_ ?_
  · intro K hK
    go_simp
    refine (iOpOf_any b (off + 4) (cc - 4) B x4 x5 x6 x7 x8 (d.drop 4) HP.out _ (hdr.below (c.mono hB)) (Nat.le_trans hB c.size)).mono ?_
    rintro e w3 ⟨rfl, b2⟩
    replace c := c.trans (b2.mono c.size)
    replace S := S.keep b2
    clear b2
    clear HF
    have HF : w3.cell? ⟨b, off, none⟩ = some (.int .i64 x0) ∧ w3.cell? ⟨b, off + 1, none⟩ = some (.int .i64 x1) ∧ w3.cell? ⟨b, off + 2, none⟩ = some (.int .i64 x2) ∧ w3.cell? ⟨b, off + 3, none⟩ = some (.int .i64 x3) := ⟨cu0z c k0 (show b < _ by omega), cu0z c k1 (show b < _ by omega), cu0z c k2 (show b < _ by omega), cu0z c k3 (show b < _ by omega)⟩
    refine hK _ _ (fun _ => HF) ?_
    clear hK K
    try simp only [Act.put]
    refine tk 15 (v := ?_) rfl rfl HF (.inl ⟨by rfl, ?_⟩) ?_
    rotate_left 1
    · (rintro v ⟨a0, a1, a2, a3⟩; go_simp; try with_reducible rfl)
    try simp only [Act.put]
    refine wpAnyL_step (i := 16) (by kernel_rfl) rfl rfl ?_
    intro K hK
    go_simp
    replace S := S.boxAt c.size (w3.heap.size) rfl #[.int .i64 0, .int .i64 0, .int .i64 0, .int .i64 0, .int .i64 0, .int .i64 0, .int .i64 0, .int .i64 0, .int .i64 0] 35
    replace c := al c S
    clear HF
    have HF : (w3.alloc (.cells #[.int .i64 0, .int .i64 0, .int .i64 0, .int .i64 0, .int .i64 0, .int .i64 0, .int .i64 0, .int .i64 0, .int .i64 0] 35)).cell? ⟨b, off, none⟩ = some (.int .i64 x0) ∧ (w3.alloc (.cells #[.int .i64 0, .int .i64 0, .int .i64 0, .int .i64 0, .int .i64 0, .int .i64 0, .int .i64 0, .int .i64 0, .int .i64 0] 35)).cell? ⟨b, off + 1, none⟩ = some (.int .i64 x1) ∧ (w3.alloc (.cells #[.int .i64 0, .int .i64 0, .int .i64 0, .int .i64 0, .int .i64 0, .int .i64 0, .int .i64 0, .int .i64 0, .int .i64 0] 35)).cell? ⟨b, off + 2, none⟩ = some (.int .i64 x2) ∧ (w3.alloc (.cells #[.int .i64 0, .int .i64 0, .int .i64 0, .int .i64 0, .int .i64 0, .int .i64 0, .int .i64 0, .int .i64 0, .int .i64 0] 35)).cell? ⟨b, off + 3, none⟩ = some (.int .i64 x3) := ⟨cu0z c k0 (show b < _ by omega), cu0z c k1 (show b < _ by omega), cu0z c k2 (show b < _ by omega), cu0z c k3 (show b < _ by omega)⟩
    refine hK _ _ (fun _ => HF) ?_
    clear hK K
    try simp only [Act.put]
    generalize hw : w3.alloc (.cells #[.int .i64 0, .int .i64 0, .int .i64 0, .int .i64 0, .int .i64 0, .int .i64 0, .int .i64 0, .int .i64 0, .int .i64 0] 35) = w4 at *
    clear hw
    obtain ⟨qe, hqe⟩ : ∃ q, q = w3.heap.size := ⟨_, rfl⟩
    rw [← hqe] at S ⊢
    clear hqe
    refine wpAnyL_step (i := 17) (by kernel_rfl) rfl rfl ?_
    intro K hK
    refine wp_store_row _ _ _ rfl qe #[.int .i64 x0, .int .i64 x1, .int .i64 x2, .int .i64 x3, .int .i64 x4, .int .i64 x5, .int .i64 x6, .int .i64 x7, .int .i64 x8] (by rfl) (by rfl) 35 #[.int .i64 0, .int .i64 0, .int .i64 0, .int .i64 0, .int .i64 0, .int .i64 0, .int .i64 0, .int .i64 0, .int .i64 0] (S.at_ 0 rfl) (show _ = some 9 by kernel_rfl) rfl (all_oneCell_toArray (cs := [.int .i64 x0, .int .i64 x1, .int .i64 x2, .int .i64 x3, .int .i64 x4, .int .i64 x5, .int .i64 x6, .int .i64 x7, .int .i64 x8]) (by intro u hu; simp at hu; cases u <;> simp_all [Value.oneCell'])) ?_
    refine hK _ _ (fun h => nomatch (show true = false from h)) ?_
    clear hK K
    try simp only [Act.put]
    refine wpAnyL_done (by kernel_rfl) ?_ _
    replace c := c.trans ((touch_setRow w4 qe #[.int .i64 x0, .int .i64 x1, .int .i64 x2, .int .i64 x3, .int .i64 x4, .int .i64 x5, .int .i64 x6, .int .i64 x7, .int .i64 x8]).below (fun q hq => by rw [List.mem_singleton.1 hq]; exact S.base_le 0 rfl) c.size)
    replace S := S.row 0 rfl #[.int .i64 x0, .int .i64 x1, .int .i64 x2, .int .i64 x3, .int .i64 x4, .int .i64 x5, .int .i64 x6, .int .i64 x7, .int .i64 x8]
    generalize w4.setRow qe #[.int .i64 x0, .int .i64 x1, .int .i64 x2, .int .i64 x3, .int .i64 x4, .int .i64 x5, .int .i64 x6, .int .i64 x7, .int .i64 x8] = w5 at *
    clear HF
    have f0 := lk S 0 0 rfl rfl
    have f1 := lk S 0 1 rfl rfl
    have f2 := lk S 0 2 rfl rfl
    have f3 := lk S 0 3 rfl rfl
    have f4 := lk S 0 4 rfl rfl
    have f5 := lk S 0 5 rfl rfl
    have f6 := lk S 0 6 rfl rfl
    have f7 := lk S 0 7 rfl rfl
    have f8 := lk S 0 8 rfl rfl
    go_wp2_with fail
    refine (iEntryOk_any x0 x1 x2 x3 x4 x5 x6 x7 x8 _).mono ?_
    rintro e w6 ⟨rfl, b2⟩
    replace c := c.trans (b2.mono c.size)
    replace S := S.keep b2
    clear b2 f0 f1 f2 f3 f4 f5 f6 f7 f8
    cases hok : entB ⟨x0, x1, x2, x3, x4, x5, x6, x7, x8⟩
    case false =>
     have HD := jd (show rowEntM d = (ent0, false) by unfold rowEntM; rw [if_pos HL.out, HO.out, if_neg (by rw [hok]; decide)])
     clear hok
     have f9 := lk S 1 0 rfl rfl
     have f10 := (S.at_ 1 rfl).free 0
     have f11 := lk S 1 1 rfl rfl
     have f12 := (S.at_ 1 rfl).free 1
     have f13 := lk S 1 2 rfl rfl
     have f14 := (S.at_ 1 rfl).free 2
     have f15 := lk S 1 3 rfl rfl
     have f16 := (S.at_ 1 rfl).free 3
     have f17 := lk S 1 4 rfl rfl
     have f18 := (S.at_ 1 rfl).free 4
     have f19 := lk S 1 5 rfl rfl
     have f20 := (S.at_ 1 rfl).free 5
     have f21 := lk S 1 6 rfl rfl
     have f22 := (S.at_ 1 rfl).free 6
     have f23 := lk S 1 7 rfl rfl
     have f24 := (S.at_ 1 rfl).free 7
     have f25 := lk S 1 8 rfl rfl
     have f26 := (S.at_ 1 rfl).free 8
     replace S := S.put 1 rfl 0 (.int .i64 0)
     replace c := st c S (by omega)
     replace S := S.put 1 rfl 1 (.int .i64 0)
     replace c := st c S (by omega)
     replace S := S.put 1 rfl 2 (.int .i64 0)
     replace c := st c S (by omega)
     replace S := S.put 1 rfl 3 (.int .i64 0)
     replace c := st c S (by omega)
     replace S := S.put 1 rfl 4 (.int .i64 0)
     replace c := st c S (by omega)
     replace S := S.put 1 rfl 5 (.int .i64 0)
     replace c := st c S (by omega)
     replace S := S.put 1 rfl 6 (.int .i64 0)
     replace c := st c S (by omega)
     replace S := S.put 1 rfl 7 (.int .i64 0)
     replace c := st c S (by omega)
     replace S := S.put 1 rfl 8 (.int .i64 0)
     replace c := st c S (by omega)
     have r0 := jd ((S.at_ 1 rfl).cell 0)
     have r1 := jd ((S.at_ 1 rfl).cell 1)
     have r2 := jd ((S.at_ 1 rfl).cell 2)
     have r3 := jd ((S.at_ 1 rfl).cell 3)
     have r4 := jd ((S.at_ 1 rfl).cell 4)
     have r5 := jd ((S.at_ 1 rfl).cell 5)
     have r6 := jd ((S.at_ 1 rfl).cell 6)
     have r7 := jd ((S.at_ 1 rfl).cell 7)
     have r8 := jd ((S.at_ 1 rfl).cell 8)
     have C := jd c
     clear S c
     go_wp2
     exact bodyPost_ret (v := .tuple #[.agg #[.int .i64 0, .int .i64 0, .int .i64 0, .int .i64 0, .int .i64 0, .int .i64 0, .int .i64 0, .int .i64 0, .int .i64 0], .bool false]) (by simp [results, Try.results45, go_sem, r0.out, r1.out, r2.out, r3.out, r4.out, r5.out, r6.out, r7.out, r8.out]) rfl ⟨by first | (rw [HD.out]; done) | (rw [HD.out]; rfl), C.out⟩
    case true =>
     have HD := jd (show rowEntM d = (⟨x0, x1, x2, x3, x4, x5, x6, x7, x8⟩, true) by unfold rowEntM; rw [if_pos HL.out, HO.out, if_pos hok])
     clear hok
     have f9 := lk S 0 0 rfl rfl
     have f10 := lk S 0 1 rfl rfl
     have f11 := lk S 0 2 rfl rfl
     have f12 := lk S 0 3 rfl rfl
     have f13 := lk S 0 4 rfl rfl
     have f14 := lk S 0 5 rfl rfl
     have f15 := lk S 0 6 rfl rfl
     have f16 := lk S 0 7 rfl rfl
     have f17 := lk S 0 8 rfl rfl
     have f18 := lk S 1 0 rfl rfl
     have f19 := (S.at_ 1 rfl).free 0
     have f20 := lk S 1 1 rfl rfl
     have f21 := (S.at_ 1 rfl).free 1
     have f22 := lk S 1 2 rfl rfl
     have f23 := (S.at_ 1 rfl).free 2
     have f24 := lk S 1 3 rfl rfl
     have f25 := (S.at_ 1 rfl).free 3
     have f26 := lk S 1 4 rfl rfl
     have f27 := (S.at_ 1 rfl).free 4
     have f28 := lk S 1 5 rfl rfl
     have f29 := (S.at_ 1 rfl).free 5
     have f30 := lk S 1 6 rfl rfl
     have f31 := (S.at_ 1 rfl).free 6
     have f32 := lk S 1 7 rfl rfl
     have f33 := (S.at_ 1 rfl).free 7
     have f34 := lk S 1 8 rfl rfl
     have f35 := (S.at_ 1 rfl).free 8
     replace S := S.put 1 rfl 0 (.int .i64 x0)
     replace c := st c S (by omega)
     replace S := S.put 1 rfl 1 (.int .i64 x1)
     replace c := st c S (by omega)
     replace S := S.put 1 rfl 2 (.int .i64 x2)
     replace c := st c S (by omega)
     replace S := S.put 1 rfl 3 (.int .i64 x3)
     replace c := st c S (by omega)
     replace S := S.put 1 rfl 4 (.int .i64 x4)
     replace c := st c S (by omega)
     replace S := S.put 1 rfl 5 (.int .i64 x5)
     replace c := st c S (by omega)
     replace S := S.put 1 rfl 6 (.int .i64 x6)
     replace c := st c S (by omega)
     replace S := S.put 1 rfl 7 (.int .i64 x7)
     replace c := st c S (by omega)
     replace S := S.put 1 rfl 8 (.int .i64 x8)
     replace c := st c S (by omega)
     have r0 := jd ((S.at_ 1 rfl).cell 0)
     have r1 := jd ((S.at_ 1 rfl).cell 1)
     have r2 := jd ((S.at_ 1 rfl).cell 2)
     have r3 := jd ((S.at_ 1 rfl).cell 3)
     have r4 := jd ((S.at_ 1 rfl).cell 4)
     have r5 := jd ((S.at_ 1 rfl).cell 5)
     have r6 := jd ((S.at_ 1 rfl).cell 6)
     have r7 := jd ((S.at_ 1 rfl).cell 7)
     have r8 := jd ((S.at_ 1 rfl).cell 8)
     have C := jd c
     clear S c
     go_wp2
     exact bodyPost_ret (v := .tuple #[.agg #[.int .i64 x0, .int .i64 x1, .int .i64 x2, .int .i64 x3, .int .i64 x4, .int .i64 x5, .int .i64 x6, .int .i64 x7, .int .i64 x8], .bool true]) (by simp [results, Try.results45, go_sem, r0.out, r1.out, r2.out, r3.out, r4.out, r5.out, r6.out, r7.out, r8.out]) rfl ⟨by first | (rw [HD.out]; done) | (rw [HD.out]; rfl), C.out⟩
  · intro K hK
    go_simp
    replace S := S.boxAt c.size (w2.heap.size) rfl #[.int .i64 0, .int .i64 0, .int .i64 0, .int .i64 0, .int .i64 0, .int .i64 0, .int .i64 0, .int .i64 0, .int .i64 0] 35
    replace c := al c S
    clear HF
    have HF : (w2.alloc (.cells #[.int .i64 0, .int .i64 0, .int .i64 0, .int .i64 0, .int .i64 0, .int .i64 0, .int .i64 0, .int .i64 0, .int .i64 0] 35)).cell? ⟨b, off, none⟩ = some (.int .i64 x0) ∧ (w2.alloc (.cells #[.int .i64 0, .int .i64 0, .int .i64 0, .int .i64 0, .int .i64 0, .int .i64 0, .int .i64 0, .int .i64 0, .int .i64 0] 35)).cell? ⟨b, off + 1, none⟩ = some (.int .i64 x1) ∧ (w2.alloc (.cells #[.int .i64 0, .int .i64 0, .int .i64 0, .int .i64 0, .int .i64 0, .int .i64 0, .int .i64 0, .int .i64 0, .int .i64 0] 35)).cell? ⟨b, off + 2, none⟩ = some (.int .i64 x2) ∧ (w2.alloc (.cells #[.int .i64 0, .int .i64 0, .int .i64 0, .int .i64 0, .int .i64 0, .int .i64 0, .int .i64 0, .int .i64 0, .int .i64 0] 35)).cell? ⟨b, off + 3, none⟩ = some (.int .i64 x3) := ⟨cu0z c k0 (show b < _ by omega), cu0z c k1 (show b < _ by omega), cu0z c k2 (show b < _ by omega), cu0z c k3 (show b < _ by omega)⟩
    refine hK _ _ (fun _ => HF) ?_
    clear hK K
    try simp only [Act.put]
    generalize hw : w2.alloc (.cells #[.int .i64 0, .int .i64 0, .int .i64 0, .int .i64 0, .int .i64 0, .int .i64 0, .int .i64 0, .int .i64 0, .int .i64 0] 35) = w3 at *
    clear hw
    obtain ⟨qe, hqe⟩ : ∃ q, q = w2.heap.size := ⟨_, rfl⟩
    rw [← hqe] at S ⊢
    clear hqe
    refine wpAnyL_step (i := 14) (by kernel_rfl) rfl rfl ?_
    intro K hK
    go_simp
    refine (iOpOf_any b (off + 4) (cc - 4) B x4 x5 x6 x7 x8 (d.drop 4) HP.out _ (hdr.below (c.mono hB)) (Nat.le_trans hB c.size)).mono ?_
    rintro e w4 ⟨rfl, b2⟩
    replace c := c.trans (b2.mono c.size)
    replace S := S.keep b2
    clear b2
    clear HF
    have HF : w4.cell? ⟨b, off, none⟩ = some (.int .i64 x0) ∧ w4.cell? ⟨b, off + 1, none⟩ = some (.int .i64 x1) ∧ w4.cell? ⟨b, off + 2, none⟩ = some (.int .i64 x2) ∧ w4.cell? ⟨b, off + 3, none⟩ = some (.int .i64 x3) := ⟨cu0z c k0 (show b < _ by omega), cu0z c k1 (show b < _ by omega), cu0z c k2 (show b < _ by omega), cu0z c k3 (show b < _ by omega)⟩
    refine hK _ _ (fun _ => HF) ?_
    clear hK K
    try simp only [Act.put]
    refine tk 15 (v := ?_) rfl rfl HF (.inl ⟨by rfl, ?_⟩) ?_
    rotate_left 1
    · (rintro v ⟨a0, a1, a2, a3⟩; go_simp; try with_reducible rfl)
    try simp only [Act.put]
    refine wpAnyL_step (i := 17) (by kernel_rfl) rfl rfl ?_
    intro K hK
    refine wp_store_row _ _ _ rfl qe #[.int .i64 x0, .int .i64 x1, .int .i64 x2, .int .i64 x3, .int .i64 x4, .int .i64 x5, .int .i64 x6, .int .i64 x7, .int .i64 x8] (by rfl) (by rfl) 35 #[.int .i64 0, .int .i64 0, .int .i64 0, .int .i64 0, .int .i64 0, .int .i64 0, .int .i64 0, .int .i64 0, .int .i64 0] (S.at_ 0 rfl) (show _ = some 9 by kernel_rfl) rfl (all_oneCell_toArray (cs := [.int .i64 x0, .int .i64 x1, .int .i64 x2, .int .i64 x3, .int .i64 x4, .int .i64 x5, .int .i64 x6, .int .i64 x7, .int .i64 x8]) (by intro u hu; simp at hu; cases u <;> simp_all [Value.oneCell'])) ?_
    refine hK _ _ (fun h => nomatch (show true = false from h)) ?_
    clear hK K
    try simp only [Act.put]
    refine wpAnyL_done (by kernel_rfl) ?_ _
    replace c := c.trans ((touch_setRow w4 qe #[.int .i64 x0, .int .i64 x1, .int .i64 x2, .int .i64 x3, .int .i64 x4, .int .i64 x5, .int .i64 x6, .int .i64 x7, .int .i64 x8]).below (fun q hq => by rw [List.mem_singleton.1 hq]; exact S.base_le 0 rfl) c.size)
    replace S := S.row 0 rfl #[.int .i64 x0, .int .i64 x1, .int .i64 x2, .int .i64 x3, .int .i64 x4, .int .i64 x5, .int .i64 x6, .int .i64 x7, .int .i64 x8]
    generalize w4.setRow qe #[.int .i64 x0, .int .i64 x1, .int .i64 x2, .int .i64 x3, .int .i64 x4, .int .i64 x5, .int .i64 x6, .int .i64 x7, .int .i64 x8] = w5 at *
    clear HF
    have f0 := lk S 0 0 rfl rfl
    have f1 := lk S 0 1 rfl rfl
    have f2 := lk S 0 2 rfl rfl
    have f3 := lk S 0 3 rfl rfl
    have f4 := lk S 0 4 rfl rfl
    have f5 := lk S 0 5 rfl rfl
    have f6 := lk S 0 6 rfl rfl
    have f7 := lk S 0 7 rfl rfl
    have f8 := lk S 0 8 rfl rfl
    go_wp2_with fail
    refine (iEntryOk_any x0 x1 x2 x3 x4 x5 x6 x7 x8 _).mono ?_
    rintro e w6 ⟨rfl, b2⟩
    replace c := c.trans (b2.mono c.size)
    replace S := S.keep b2
    clear b2 f0 f1 f2 f3 f4 f5 f6 f7 f8
    cases hok : entB ⟨x0, x1, x2, x3, x4, x5, x6, x7, x8⟩
    case false =>
     have HD := jd (show rowEntM d = (ent0, false) by unfold rowEntM; rw [if_pos HL.out, HO.out, if_neg (by rw [hok]; decide)])
     clear hok
     have f9 := lk S 1 0 rfl rfl
     have f10 := (S.at_ 1 rfl).free 0
     have f11 := lk S 1 1 rfl rfl
     have f12 := (S.at_ 1 rfl).free 1
     have f13 := lk S 1 2 rfl rfl
     have f14 := (S.at_ 1 rfl).free 2
     have f15 := lk S 1 3 rfl rfl
     have f16 := (S.at_ 1 rfl).free 3
     have f17 := lk S 1 4 rfl rfl
     have f18 := (S.at_ 1 rfl).free 4
     have f19 := lk S 1 5 rfl rfl
     have f20 := (S.at_ 1 rfl).free 5
     have f21 := lk S 1 6 rfl rfl
     have f22 := (S.at_ 1 rfl).free 6
     have f23 := lk S 1 7 rfl rfl
     have f24 := (S.at_ 1 rfl).free 7
     have f25 := lk S 1 8 rfl rfl
     have f26 := (S.at_ 1 rfl).free 8
     replace S := S.put 1 rfl 0 (.int .i64 0)
     replace c := st c S (by omega)
     replace S := S.put 1 rfl 1 (.int .i64 0)
     replace c := st c S (by omega)
     replace S := S.put 1 rfl 2 (.int .i64 0)
     replace c := st c S (by omega)
     replace S := S.put 1 rfl 3 (.int .i64 0)
     replace c := st c S (by omega)
     replace S := S.put 1 rfl 4 (.int .i64 0)
     replace c := st c S (by omega)
     replace S := S.put 1 rfl 5 (.int .i64 0)
     replace c := st c S (by omega)
     replace S := S.put 1 rfl 6 (.int .i64 0)
     replace c := st c S (by omega)
     replace S := S.put 1 rfl 7 (.int .i64 0)
     replace c := st c S (by omega)
     replace S := S.put 1 rfl 8 (.int .i64 0)
     replace c := st c S (by omega)
     have r0 := jd ((S.at_ 1 rfl).cell 0)
     have r1 := jd ((S.at_ 1 rfl).cell 1)
     have r2 := jd ((S.at_ 1 rfl).cell 2)
     have r3 := jd ((S.at_ 1 rfl).cell 3)
     have r4 := jd ((S.at_ 1 rfl).cell 4)
     have r5 := jd ((S.at_ 1 rfl).cell 5)
     have r6 := jd ((S.at_ 1 rfl).cell 6)
     have r7 := jd ((S.at_ 1 rfl).cell 7)
     have r8 := jd ((S.at_ 1 rfl).cell 8)
     have C := jd c
     clear S c
     go_wp2
     exact bodyPost_ret (v := .tuple #[.agg #[.int .i64 0, .int .i64 0, .int .i64 0, .int .i64 0, .int .i64 0, .int .i64 0, .int .i64 0, .int .i64 0, .int .i64 0], .bool false]) (by simp [results, Try.results45, go_sem, r0.out, r1.out, r2.out, r3.out, r4.out, r5.out, r6.out, r7.out, r8.out]) rfl ⟨by first | (rw [HD.out]; done) | (rw [HD.out]; rfl), C.out⟩
    case true =>
     have HD := jd (show rowEntM d = (⟨x0, x1, x2, x3, x4, x5, x6, x7, x8⟩, true) by unfold rowEntM; rw [if_pos HL.out, HO.out, if_pos hok])
     clear hok
     have f9 := lk S 0 0 rfl rfl
     have f10 := lk S 0 1 rfl rfl
     have f11 := lk S 0 2 rfl rfl
     have f12 := lk S 0 3 rfl rfl
     have f13 := lk S 0 4 rfl rfl
     have f14 := lk S 0 5 rfl rfl
     have f15 := lk S 0 6 rfl rfl
     have f16 := lk S 0 7 rfl rfl
     have f17 := lk S 0 8 rfl rfl
     have f18 := lk S 1 0 rfl rfl
     have f19 := (S.at_ 1 rfl).free 0
     have f20 := lk S 1 1 rfl rfl
     have f21 := (S.at_ 1 rfl).free 1
     have f22 := lk S 1 2 rfl rfl
     have f23 := (S.at_ 1 rfl).free 2
     have f24 := lk S 1 3 rfl rfl
     have f25 := (S.at_ 1 rfl).free 3
     have f26 := lk S 1 4 rfl rfl
     have f27 := (S.at_ 1 rfl).free 4
     have f28 := lk S 1 5 rfl rfl
     have f29 := (S.at_ 1 rfl).free 5
     have f30 := lk S 1 6 rfl rfl
     have f31 := (S.at_ 1 rfl).free 6
     have f32 := lk S 1 7 rfl rfl
     have f33 := (S.at_ 1 rfl).free 7
     have f34 := lk S 1 8 rfl rfl
     have f35 := (S.at_ 1 rfl).free 8
     replace S := S.put 1 rfl 0 (.int .i64 x0)
     replace c := st c S (by omega)
     replace S := S.put 1 rfl 1 (.int .i64 x1)
     replace c := st c S (by omega)
     replace S := S.put 1 rfl 2 (.int .i64 x2)
     replace c := st c S (by omega)
     replace S := S.put 1 rfl 3 (.int .i64 x3)
     replace c := st c S (by omega)
     replace S := S.put 1 rfl 4 (.int .i64 x4)
     replace c := st c S (by omega)
     replace S := S.put 1 rfl 5 (.int .i64 x5)
     replace c := st c S (by omega)
     replace S := S.put 1 rfl 6 (.int .i64 x6)
     replace c := st c S (by omega)
     replace S := S.put 1 rfl 7 (.int .i64 x7)
     replace c := st c S (by omega)
     replace S := S.put 1 rfl 8 (.int .i64 x8)
     replace c := st c S (by omega)
     have r0 := jd ((S.at_ 1 rfl).cell 0)
     have r1 := jd ((S.at_ 1 rfl).cell 1)
     have r2 := jd ((S.at_ 1 rfl).cell 2)
     have r3 := jd ((S.at_ 1 rfl).cell 3)
     have r4 := jd ((S.at_ 1 rfl).cell 4)
     have r5 := jd ((S.at_ 1 rfl).cell 5)
     have r6 := jd ((S.at_ 1 rfl).cell 6)
     have r7 := jd ((S.at_ 1 rfl).cell 7)
     have r8 := jd ((S.at_ 1 rfl).cell 8)
     have C := jd c
     clear S c
     go_wp2
     exact bodyPost_ret (v := .tuple #[.agg #[.int .i64 x0, .int .i64 x1, .int .i64 x2, .int .i64 x3, .int .i64 x4, .int .i64 x5, .int .i64 x6, .int .i64 x7, .int .i64 x8], .bool true]) (by simp [results, Try.results45, go_sem, r0.out, r1.out, r2.out, r3.out, r4.out, r5.out, r6.out, r7.out, r8.out]) rfl ⟨by first | (rw [HD.out]; done) | (rw [HD.out]; rfl), C.out⟩
end Go.Proofs.Ytmjifhjhialcbaa

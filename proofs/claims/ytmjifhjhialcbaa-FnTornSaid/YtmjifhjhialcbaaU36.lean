/- Parts of my texts: HeadI5. -/
import Derived.Test.YtmjifhjhialcbaaU35
namespace Go.Proofs.Ytmjifhjhialcbaa
set_option maxRecDepth 100000
set_option linter.unusedVariables false
open Go.RowKit
set_option maxHeartbeats 12800000 in
theorem iRowHead_any (A : Option Addr) (n cc B : Nat) (d : List Int) (w : World) (h : Rd w B (rowCells d) [.slice A n cc]) (hB : B ≤ w.heap.size) :
    Calls Try.prog 21 #[.slice A n cc] w fun e w' => ∃ (z0 z1 z2 : Int) (A2 : Option Addr) (n2 c2 : Nat), e = .returned (.tuple #[.agg #[.int .i64 z0, .int .i64 z1, .int .i64 z2, .slice A2 n2 c2], .bool (rowHeadM d).2]) ∧ Has w' w.heap.size (rowHeadM d).1.cells [.int .i64 z0, .int .i64 z1, .int .i64 z2, .slice A2 n2 c2] ∧ Below w.heap.size w w' := by
 have HH := jd h
 obtain ⟨_, _, _, e, hi, hnc, hcm⟩ := h.irow
 injection e with e1 e2 e3
 subst e1 e2 e3
 have hm := Nat.le_trans hnc hcm
 unfold maxLen at hm
 have HL := jd hi.1
 clear h
 have S := Sep.nil w w.heap.size
 have c := Below.refl w.heap.size w
 replace S := S.boxAt c.size (w.heap.size) rfl #[.int .i64 0, .int .i64 0, .int .i64 0, .slice none 0 0] 40
 replace c := al c S
 by_cases hn : n = 13
 case neg =>
  have e1 : ((n : Int) != 13) = true := by simp; omega
  have e2 : ((n : Int) == 13) = false := by simp; omega
  have HV := jd (rowHead_len (r := d) (by have := HL.out; omega))
  clear hi hn
  go_enter Try.func21, Try.ntmps21
  have H := jd (has_headZ (w.alloc (.cells #[.int .i64 0, .int .i64 0, .int .i64 0, .slice none 0 0] 40)) w.heap.size)
  have r0 := jd ((S.at_ 0 rfl).cell 0)
  have r1 := jd ((S.at_ 0 rfl).cell 1)
  have r2 := jd ((S.at_ 0 rfl).cell 2)
  have r3 := jd ((S.at_ 0 rfl).cell 3)
  have CC := jd c
  clear S c
  go_wp2
  exact bodyPost_ret (v := .tuple #[.agg #[.int .i64 0, .int .i64 0, .int .i64 0, .slice none 0 0], .bool false]) (by simp [results, Try.results21, go_sem, r0.out, r1.out, r2.out, r3.out]) rfl ⟨_, _, _, _, _, _, by rw [HV.out], by rw [HV.out]; exact H.out, CC.out⟩
 case pos =>
  subst hn
  obtain ⟨b, off, rfl, hb, hc⟩ := hi.2 (by omega)
  have HRS := jd (rowHead_same (r := d) HL.out)
  obtain ⟨y0, hy0⟩ : ∃ x, x = d.getD 0 0 := ⟨_, rfl⟩
  have h0 := hc 0 (by omega)
  rw [← hy0] at h0
  obtain ⟨y1, hy1⟩ : ∃ x, x = d.getD 1 0 := ⟨_, rfl⟩
  have h1 := hc 1 (by omega)
  rw [← hy1] at h1
  obtain ⟨y2, hy2⟩ : ∃ x, x = d.getD 2 0 := ⟨_, rfl⟩
  have h2 := hc 2 (by omega)
  rw [← hy2] at h2
  rw [Nat.add_zero] at h0
  have HCC := jd hc
  have HOF := jd (show ofHead d = ⟨y0, y1, y2, ofMarks d 4⟩ by unfold ofHead; rw [hy0, hy1, hy2])
  rw [HOF.out] at HRS
  have hbw : b < w.heap.size := by omega
  have HB := jd hbw
  have hc9 : ¬ cc < 11 := by omega
  have hc8 : (11 : Int) ≤ (cc : Int) := by omega
  have hc3 : ¬ cc = 3 := by omega
  have HC13 := jd (show 13 ≤ cc from hnc)
  clear hi hc hy0 hy1 hy2
  go_enter Try.func21, Try.ntmps21
  go_wp2_with fail
  generalize w.alloc (.cells #[.int .i64 0, .int .i64 0, .int .i64 0, .slice none 0 0] 40) = w1 at *
  refine wp_region_L (fun v => v.cell? ⟨b, off, none⟩ = some (.int .i64 y0) ∧ v.cell? ⟨b, off + 1, none⟩ = some (.int .i64 y1) ∧ v.cell? ⟨b, off + 2, none⟩ = some (.int .i64 y2)) 14 (by kernel_rfl) ?_
  replace S := S.keep ((Below.refl _ _).drew)
  replace c := c.drew
  generalize w1.drew = w2 at *
  have HF : w2.cell? ⟨b, off, none⟩ = some (.int .i64 y0) ∧ w2.cell? ⟨b, off + 1, none⟩ = some (.int .i64 y1) ∧ w2.cell? ⟨b, off + 2, none⟩ = some (.int .i64 y2) := ⟨(c.cell (p := ⟨b, off, none⟩) HB.out).trans h0, (c.cell (p := ⟨b, off + 1, none⟩) HB.out).trans h1, (c.cell (p := ⟨b, off + 2, none⟩) HB.out).trans h2⟩
  refine tk 0 (v := ?_) rfl rfl HF (.inl ⟨by rfl, ?_⟩) ?_
  rotate_left 1
  · (rintro v ⟨a0, a1, a2⟩; go_simp; try with_reducible rfl)
  try simp only [Act.put]
  refine tk 1 (v := ?_) rfl rfl HF (.inl ⟨by rfl, ?_⟩) ?_
  rotate_left 1
  · (rintro v ⟨a0, a1, a2⟩; go_simp; try with_reducible rfl)
  try simp only [Act.put]
  refine tk 2 (v := ?_) rfl rfl HF (.inl ⟨by rfl, ?_⟩) ?_
  rotate_left 1
  · (rintro v ⟨a0, a1, a2⟩; go_simp; try with_reducible rfl)
  try simp only [Act.put]
  refine tk 3 (v := ?_) rfl rfl HF (.inl ⟨by rfl, ?_⟩) ?_
  rotate_left 1
  · (rintro v ⟨a0, a1, a2⟩; go_simp; try with_reducible rfl)
  try simp only [Act.put]
  refine tk 4 (v := ?_) rfl rfl HF (.inl ⟨by rfl, ?_⟩) ?_
  rotate_left 1
  · (rintro v ⟨a0, a1, a2⟩; go_simp; try with_reducible rfl)
  try simp only [Act.put]
  refine tk 5 (v := ?_) rfl rfl HF (.inl ⟨by rfl, ?_⟩) ?_
  rotate_left 1
  · (rintro v ⟨a0, a1, a2⟩; go_simp; try with_reducible rfl)
  try simp only [Act.put]
  refine tk 6 (v := ?_) rfl rfl HF (.inl ⟨by rfl, ?_⟩) ?_
  rotate_left 1
  · (rintro v ⟨a0, a1, a2⟩; go_simp; try with_reducible rfl)
  try simp only [Act.put]
  refine tk 7 (v := ?_) rfl rfl HF (.inl ⟨by rfl, ?_⟩) ?_
  rotate_left 1
  · (rintro v ⟨a0, a1, a2⟩; go_simp; try with_reducible rfl)
  try simp only [Act.put]
  refine tk 8 (v := ?_) rfl rfl HF (.inl ⟨by rfl, ?_⟩) ?_
  rotate_left 1
  · (rintro v ⟨a0, a1, a2⟩; go_simp; try with_reducible rfl)
  try simp only [Act.put]
  refine tk 9 (v := ?_) rfl rfl HF (.inl ⟨by rfl, ?_⟩) ?_
  rotate_left 1
  · (rintro v ⟨a0, a1, a2⟩; go_simp; try with_reducible rfl)
  try simp only [Act.put]
  refine tk 10 (v := ?_) rfl rfl HF (.inl ⟨by rfl, ?_⟩) ?_
  rotate_left 1
  · (rintro v ⟨a0, a1, a2⟩; go_simp; try with_reducible rfl)
  try simp only [Act.put]
  refine wpAnyL_two (i := 11) (k := 13) (by kernel_rfl) rfl rfl rfl rfl ?_ ?_
  · intro K hK
    go_simp
    refine (iMarksFrom_any b off cc d _ (Nat.lt_of_lt_of_le HB.out c.size) (fun j hj => (c.cell (p := ⟨b, off + j, none⟩) HB.out).trans (HCC.out j hj)) HC13.out).mono ?_
    rintro e w3 ⟨Am, nm, cm, rfl, o, bb⟩
    obtain ⟨fp_mk, S'⟩ := S.has bb o c.size
    replace c := c.trans (bb.mono c.size)
    clear S; have S := S'; clear S' o bb
    clear HF
    have HF : w3.cell? ⟨b, off, none⟩ = some (.int .i64 y0) ∧ w3.cell? ⟨b, off + 1, none⟩ = some (.int .i64 y1) ∧ w3.cell? ⟨b, off + 2, none⟩ = some (.int .i64 y2) := ⟨(c.cell (p := ⟨b, off, none⟩) HB.out).trans h0, (c.cell (p := ⟨b, off + 1, none⟩) HB.out).trans h1, (c.cell (p := ⟨b, off + 2, none⟩) HB.out).trans h2⟩
    refine hK _ _ (fun _ => HF) ?_
    clear hK K
    try simp only [Act.put]
    refine tk 12 (v := ?_) rfl rfl HF (.inl ⟨by rfl, ?_⟩) ?_
    rotate_left 1
    · (rintro v ⟨a0, a1, a2⟩; go_simp; try with_reducible rfl)
    try simp only [Act.put]
    refine wpAnyL_step (i := 13) (by kernel_rfl) rfl rfl ?_
    intro K hK
    go_simp
    replace S := S.boxAt c.size (w3.heap.size) rfl #[.int .i64 0, .int .i64 0, .int .i64 0, .slice none 0 0] 40
    replace c := al c S
    clear HF
    have HF : (w3.alloc (.cells #[.int .i64 0, .int .i64 0, .int .i64 0, .slice none 0 0] 40)).cell? ⟨b, off, none⟩ = some (.int .i64 y0) ∧ (w3.alloc (.cells #[.int .i64 0, .int .i64 0, .int .i64 0, .slice none 0 0] 40)).cell? ⟨b, off + 1, none⟩ = some (.int .i64 y1) ∧ (w3.alloc (.cells #[.int .i64 0, .int .i64 0, .int .i64 0, .slice none 0 0] 40)).cell? ⟨b, off + 2, none⟩ = some (.int .i64 y2) := ⟨(c.cell (p := ⟨b, off, none⟩) HB.out).trans h0, (c.cell (p := ⟨b, off + 1, none⟩) HB.out).trans h1, (c.cell (p := ⟨b, off + 2, none⟩) HB.out).trans h2⟩
    refine hK _ _ (fun _ => HF) ?_
    clear hK K
    try simp only [Act.put]
    generalize hw : w3.alloc (.cells #[.int .i64 0, .int .i64 0, .int .i64 0, .slice none 0 0] 40) = w4 at *
    clear hw
    obtain ⟨qo, hqo⟩ : ∃ q, q = w3.heap.size := ⟨_, rfl⟩
    rw [← hqo] at S ⊢
    clear hqo
    have f0 := lk S 0 0 rfl rfl
    have f1 := (S.at_ 0 rfl).free 0
    have f2 := lk S 0 1 rfl rfl
    have f3 := (S.at_ 0 rfl).free 1
    have f4 := lk S 0 2 rfl rfl
    have f5 := (S.at_ 0 rfl).free 2
    have f6 := lk S 0 3 rfl rfl
    have f7 := (S.at_ 0 rfl).free 3
    refine wpAnyL_step (i := 14) (by kernel_rfl) rfl rfl ?_
    intro K hK
    go_simp
    refine hK _ _ (fun h => nomatch (show true = false from h)) ?_
    clear hK K
    try simp only [Act.put]
    refine wpAnyL_done (by kernel_rfl) ?_ _
    replace S := S.put 0 rfl 0 (.int .i64 y0)
    replace c := st c S (S.base_le 0 rfl)
    replace S := S.put 0 rfl 1 (.int .i64 y1)
    replace c := st c S (S.base_le 0 rfl)
    replace S := S.put 0 rfl 2 (.int .i64 y2)
    replace c := st c S (S.base_le 0 rfl)
    replace S := S.put 0 rfl 3 (.slice Am nm cm)
    replace c := st c S (S.base_le 0 rfl)
    clear HF
    generalize (((w4.setCell ⟨qo, 0, none⟩ (.int .i64 y0)).setCell ⟨qo, 1, none⟩ (.int .i64 y1)).setCell ⟨qo, 2, none⟩ (.int .i64 y2)).setCell ⟨qo, 3, none⟩ (.slice Am nm cm) = w5 at *
    clear f0 f1 f2 f3 f4 f5 f6 f7
    clear h0 h1 h2
    have f8 := lk S 0 0 rfl rfl
    have f9 := lk S 0 1 rfl rfl
    have f10 := lk S 0 2 rfl rfl
    have f11 := lk S 0 3 rfl rfl
    go_wp2_with fail
    refine (iHeadRow_any y0 y1 y2 Am nm cm _ (ofMarks d 4) _ (S.own_ 1 rfl).rd (Nat.le_refl _) (by have := ofMarks_len d 4; unfold mrkSz; omega)).mono ?_
    rintro e w6 ⟨A2, n2, c2, rfl, _, o, bb⟩
    obtain ⟨fp_u, S'⟩ := S.has bb o c.size
    replace c := c.trans (bb.mono c.size)
    clear S; have S := S'; clear S' o bb f8 f9 f10 f11
    go_wp2_with fail
    refine (iSameD _ _ _ _ _ _ _ _ _ _ _ (S.own_ 0 rfl).rd ((HH.out.keep (c.mono hB)).up (Nat.le_trans hB c.size)) (by have := headRowM_len ⟨y0, y1, y2, ofMarks d 4⟩; omega) (by have := HL.out; omega)).mono ?_
    rintro e w7 ⟨rfl, b2⟩
    replace c := c.trans (b2.mono c.size)
    replace S := S.keep b2
    clear b2
    cases hsm : sameI (headRowM ⟨y0, y1, y2, ofMarks d 4⟩) d
    case false =>
     have HV := jd (show rowHeadM d = (headZ, false) by rw [HRS.out]; exact if_neg (fun h9 => by have h8 : sameI (headRowM ⟨y0, y1, y2, ofMarks d 4⟩) d = true := decide_eq_true h9; rw [hsm] at h8; cases h8))
     clear HRS hsm
     have f12 := lk S 3 0 rfl rfl
     have f13 := (S.at_ 3 rfl).free 0
     have f14 := lk S 3 1 rfl rfl
     have f15 := (S.at_ 3 rfl).free 1
     have f16 := lk S 3 2 rfl rfl
     have f17 := (S.at_ 3 rfl).free 2
     have f18 := lk S 3 3 rfl rfl
     have f19 := (S.at_ 3 rfl).free 3
     replace S := S.put 3 rfl 0 (.int .i64 0)
     replace c := st c S (by omega)
     replace S := S.put 3 rfl 1 (.int .i64 0)
     replace c := st c S (by omega)
     replace S := S.put 3 rfl 2 (.int .i64 0)
     replace c := st c S (by omega)
     replace S := S.put 3 rfl 3 (.slice none 0 0)
     replace c := st c S (by omega)
     have H := jd (has_headZ ((((w7.setCell ⟨w.heap.size, 0, none⟩ (.int .i64 0)).setCell ⟨w.heap.size, 1, none⟩ (.int .i64 0)).setCell ⟨w.heap.size, 2, none⟩ (.int .i64 0)).setCell ⟨w.heap.size, 3, none⟩ (.slice none 0 0)) w.heap.size)
     have r0 := jd ((S.at_ 3 rfl).cell 0)
     have r1 := jd ((S.at_ 3 rfl).cell 1)
     have r2 := jd ((S.at_ 3 rfl).cell 2)
     have r3 := jd ((S.at_ 3 rfl).cell 3)
     have CC := jd c
     clear S c
     go_wp2
     exact bodyPost_ret (v := .tuple #[.agg #[.int .i64 0, .int .i64 0, .int .i64 0, .slice none 0 0], .bool false]) (by simp [results, Try.results21, go_sem, r0.out, r1.out, r2.out, r3.out]) rfl ⟨_, _, _, _, _, _, by rw [HV.out], by rw [HV.out]; exact H.out, CC.out⟩
    case true =>
     have HV := jd (show rowHeadM d = ((⟨y0, y1, y2, ofMarks d 4⟩ : HeadM), true) by rw [HRS.out]; exact if_pos (of_decide_eq_true hsm))
     clear HRS hsm
     have f12 := lk S 1 0 rfl rfl
     have f13 := lk S 1 1 rfl rfl
     have f14 := lk S 1 2 rfl rfl
     have f15 := lk S 1 3 rfl rfl
     have f16 := lk S 3 0 rfl rfl
     have f17 := (S.at_ 3 rfl).free 0
     have f18 := lk S 3 1 rfl rfl
     have f19 := (S.at_ 3 rfl).free 1
     have f20 := lk S 3 2 rfl rfl
     have f21 := (S.at_ 3 rfl).free 2
     have f22 := lk S 3 3 rfl rfl
     have f23 := (S.at_ 3 rfl).free 3
     replace S := S.put 3 rfl 0 (.int .i64 y0)
     replace c := st c S (by omega)
     replace S := S.put 3 rfl 1 (.int .i64 y1)
     replace c := st c S (by omega)
     replace S := S.put 3 rfl 2 (.int .i64 y2)
     replace c := st c S (by omega)
     replace S := S.put 3 rfl 3 (.slice Am nm cm)
     replace c := st c S (by omega)
     replace S := S.pick 2 rfl
     have H := jd (Has.int (n := y0) (Has.int (n := y1) (Has.int (n := y2) S.first)))
     have r0 := jd ((S.at_ 3 rfl).cell 0)
     have r1 := jd ((S.at_ 3 rfl).cell 1)
     have r2 := jd ((S.at_ 3 rfl).cell 2)
     have r3 := jd ((S.at_ 3 rfl).cell 3)
     have CC := jd c
     clear S c
     go_wp2
     exact bodyPost_ret (v := .tuple #[.agg #[.int .i64 y0, .int .i64 y1, .int .i64 y2, .slice Am nm cm], .bool true]) (by simp [results, Try.results21, go_sem, r0.out, r1.out, r2.out, r3.out]) rfl ⟨_, _, _, _, _, _, by rw [HV.out], by rw [HV.out]; exact H.out, CC.out⟩
  · intro K hK
    go_simp
    replace S := S.boxAt c.size (w2.heap.size) rfl #[.int .i64 0, .int .i64 0, .int .i64 0, .slice none 0 0] 40
    replace c := al c S
    clear HF
    have HF : (w2.alloc (.cells #[.int .i64 0, .int .i64 0, .int .i64 0, .slice none 0 0] 40)).cell? ⟨b, off, none⟩ = some (.int .i64 y0) ∧ (w2.alloc (.cells #[.int .i64 0, .int .i64 0, .int .i64 0, .slice none 0 0] 40)).cell? ⟨b, off + 1, none⟩ = some (.int .i64 y1) ∧ (w2.alloc (.cells #[.int .i64 0, .int .i64 0, .int .i64 0, .slice none 0 0] 40)).cell? ⟨b, off + 2, none⟩ = some (.int .i64 y2) := ⟨(c.cell (p := ⟨b, off, none⟩) HB.out).trans h0, (c.cell (p := ⟨b, off + 1, none⟩) HB.out).trans h1, (c.cell (p := ⟨b, off + 2, none⟩) HB.out).trans h2⟩
    refine hK _ _ (fun _ => HF) ?_
    clear hK K
    try simp only [Act.put]
    generalize hw : w2.alloc (.cells #[.int .i64 0, .int .i64 0, .int .i64 0, .slice none 0 0] 40) = w3 at *
    clear hw
    obtain ⟨qo, hqo⟩ : ∃ q, q = w2.heap.size := ⟨_, rfl⟩
    rw [← hqo] at S ⊢
    clear hqo
    refine wpAnyL_step (i := 11) (by kernel_rfl) rfl rfl ?_
    intro K hK
    go_simp
    refine (iMarksFrom_any b off cc d _ (Nat.lt_of_lt_of_le HB.out c.size) (fun j hj => (c.cell (p := ⟨b, off + j, none⟩) HB.out).trans (HCC.out j hj)) HC13.out).mono ?_
    rintro e w4 ⟨Am, nm, cm, rfl, o, bb⟩
    obtain ⟨fp_mk, S'⟩ := S.has bb o c.size
    replace c := c.trans (bb.mono c.size)
    clear S; have S := S'; clear S' o bb
    clear HF
    have HF : w4.cell? ⟨b, off, none⟩ = some (.int .i64 y0) ∧ w4.cell? ⟨b, off + 1, none⟩ = some (.int .i64 y1) ∧ w4.cell? ⟨b, off + 2, none⟩ = some (.int .i64 y2) := ⟨(c.cell (p := ⟨b, off, none⟩) HB.out).trans h0, (c.cell (p := ⟨b, off + 1, none⟩) HB.out).trans h1, (c.cell (p := ⟨b, off + 2, none⟩) HB.out).trans h2⟩
    refine hK _ _ (fun _ => HF) ?_
    clear hK K
    try simp only [Act.put]
    refine tk 12 (v := ?_) rfl rfl HF (.inl ⟨by rfl, ?_⟩) ?_
    rotate_left 1
    · (rintro v ⟨a0, a1, a2⟩; go_simp; try with_reducible rfl)
    try simp only [Act.put]
    have f0 := lk S 1 0 rfl rfl
    have f1 := (S.at_ 1 rfl).free 0
    have f2 := lk S 1 1 rfl rfl
    have f3 := (S.at_ 1 rfl).free 1
    have f4 := lk S 1 2 rfl rfl
    have f5 := (S.at_ 1 rfl).free 2
    have f6 := lk S 1 3 rfl rfl
    have f7 := (S.at_ 1 rfl).free 3
    refine wpAnyL_step (i := 14) (by kernel_rfl) rfl rfl ?_
    intro K hK
    go_simp
    refine hK _ _ (fun h => nomatch (show true = false from h)) ?_
    clear hK K
    try simp only [Act.put]
    refine wpAnyL_done (by kernel_rfl) ?_ _
    replace S := S.put 1 rfl 0 (.int .i64 y0)
    replace c := st c S (S.base_le 1 rfl)
    replace S := S.put 1 rfl 1 (.int .i64 y1)
    replace c := st c S (S.base_le 1 rfl)
    replace S := S.put 1 rfl 2 (.int .i64 y2)
    replace c := st c S (S.base_le 1 rfl)
    replace S := S.put 1 rfl 3 (.slice Am nm cm)
    replace c := st c S (S.base_le 1 rfl)
    clear HF
    generalize (((w4.setCell ⟨qo, 0, none⟩ (.int .i64 y0)).setCell ⟨qo, 1, none⟩ (.int .i64 y1)).setCell ⟨qo, 2, none⟩ (.int .i64 y2)).setCell ⟨qo, 3, none⟩ (.slice Am nm cm) = w5 at *
    clear f0 f1 f2 f3 f4 f5 f6 f7
    clear h0 h1 h2
    have f8 := lk S 1 0 rfl rfl
    have f9 := lk S 1 1 rfl rfl
    have f10 := lk S 1 2 rfl rfl
    have f11 := lk S 1 3 rfl rfl
    go_wp2_with fail
    refine (iHeadRow_any y0 y1 y2 Am nm cm _ (ofMarks d 4) _ (S.own_ 0 rfl).rd (Nat.le_refl _) (by have := ofMarks_len d 4; unfold mrkSz; omega)).mono ?_
    rintro e w6 ⟨A2, n2, c2, rfl, _, o, bb⟩
    obtain ⟨fp_u, S'⟩ := S.has bb o c.size
    replace c := c.trans (bb.mono c.size)
    clear S; have S := S'; clear S' o bb f8 f9 f10 f11
    go_wp2_with fail
    refine (iSameD _ _ _ _ _ _ _ _ _ _ _ (S.own_ 0 rfl).rd ((HH.out.keep (c.mono hB)).up (Nat.le_trans hB c.size)) (by have := headRowM_len ⟨y0, y1, y2, ofMarks d 4⟩; omega) (by have := HL.out; omega)).mono ?_
    rintro e w7 ⟨rfl, b2⟩
    replace c := c.trans (b2.mono c.size)
    replace S := S.keep b2
    clear b2
    cases hsm : sameI (headRowM ⟨y0, y1, y2, ofMarks d 4⟩) d
    case false =>
     have HV := jd (show rowHeadM d = (headZ, false) by rw [HRS.out]; exact if_neg (fun h9 => by have h8 : sameI (headRowM ⟨y0, y1, y2, ofMarks d 4⟩) d = true := decide_eq_true h9; rw [hsm] at h8; cases h8))
     clear HRS hsm
     have f12 := lk S 3 0 rfl rfl
     have f13 := (S.at_ 3 rfl).free 0
     have f14 := lk S 3 1 rfl rfl
     have f15 := (S.at_ 3 rfl).free 1
     have f16 := lk S 3 2 rfl rfl
     have f17 := (S.at_ 3 rfl).free 2
     have f18 := lk S 3 3 rfl rfl
     have f19 := (S.at_ 3 rfl).free 3
     replace S := S.put 3 rfl 0 (.int .i64 0)
     replace c := st c S (by omega)
     replace S := S.put 3 rfl 1 (.int .i64 0)
     replace c := st c S (by omega)
     replace S := S.put 3 rfl 2 (.int .i64 0)
     replace c := st c S (by omega)
     replace S := S.put 3 rfl 3 (.slice none 0 0)
     replace c := st c S (by omega)
     have H := jd (has_headZ ((((w7.setCell ⟨w.heap.size, 0, none⟩ (.int .i64 0)).setCell ⟨w.heap.size, 1, none⟩ (.int .i64 0)).setCell ⟨w.heap.size, 2, none⟩ (.int .i64 0)).setCell ⟨w.heap.size, 3, none⟩ (.slice none 0 0)) w.heap.size)
     have r0 := jd ((S.at_ 3 rfl).cell 0)
     have r1 := jd ((S.at_ 3 rfl).cell 1)
     have r2 := jd ((S.at_ 3 rfl).cell 2)
     have r3 := jd ((S.at_ 3 rfl).cell 3)
     have CC := jd c
     clear S c
     go_wp2
     exact bodyPost_ret (v := .tuple #[.agg #[.int .i64 0, .int .i64 0, .int .i64 0, .slice none 0 0], .bool false]) (by simp [results, Try.results21, go_sem, r0.out, r1.out, r2.out, r3.out]) rfl ⟨_, _, _, _, _, _, by rw [HV.out], by rw [HV.out]; exact H.out, CC.out⟩
    case true =>
     have HV := jd (show rowHeadM d = ((⟨y0, y1, y2, ofMarks d 4⟩ : HeadM), true) by rw [HRS.out]; exact if_pos (of_decide_eq_true hsm))
     clear HRS hsm
     have f12 := lk S 2 0 rfl rfl
     have f13 := lk S 2 1 rfl rfl
     have f14 := lk S 2 2 rfl rfl
     have f15 := lk S 2 3 rfl rfl
     have f16 := lk S 3 0 rfl rfl
     have f17 := (S.at_ 3 rfl).free 0
     have f18 := lk S 3 1 rfl rfl
     have f19 := (S.at_ 3 rfl).free 1
     have f20 := lk S 3 2 rfl rfl
     have f21 := (S.at_ 3 rfl).free 2
     have f22 := lk S 3 3 rfl rfl
     have f23 := (S.at_ 3 rfl).free 3
     replace S := S.put 3 rfl 0 (.int .i64 y0)
     replace c := st c S (by omega)
     replace S := S.put 3 rfl 1 (.int .i64 y1)
     replace c := st c S (by omega)
     replace S := S.put 3 rfl 2 (.int .i64 y2)
     replace c := st c S (by omega)
     replace S := S.put 3 rfl 3 (.slice Am nm cm)
     replace c := st c S (by omega)
     replace S := S.pick 1 rfl
     have H := jd (Has.int (n := y0) (Has.int (n := y1) (Has.int (n := y2) S.first)))
     have r0 := jd ((S.at_ 3 rfl).cell 0)
     have r1 := jd ((S.at_ 3 rfl).cell 1)
     have r2 := jd ((S.at_ 3 rfl).cell 2)
     have r3 := jd ((S.at_ 3 rfl).cell 3)
     have CC := jd c
     clear S c
     go_wp2
     exact bodyPost_ret (v := .tuple #[.agg #[.int .i64 y0, .int .i64 y1, .int .i64 y2, .slice Am nm cm], .bool true]) (by simp [results, Try.results21, go_sem, r0.out, r1.out, r2.out, r3.out]) rfl ⟨_, _, _, _, _, _, by rw [HV.out], by rw [HV.out]; exact H.out, CC.out⟩
end Go.Proofs.Ytmjifhjhialcbaa

/- Parts of my texts: HeadS5. -/
import Derived.Test.YtecihkkagpbkdaaK14
namespace Go.Proofs.Ytecihkkagpbkdaa
set_option maxRecDepth 100000
set_option linter.unusedVariables false
open Go.RowKit
theorem ow_nil_mrksH (w : World) : Ow w [mrkD []] [.slice none 0 0] [] := Ow.row (n := 0) (us := []) (fp1 := []) (fp2 := []) (World.ownsRow_nil w 0 _ _) .nil .nil
theorem has_headZ (w : World) (base : Nat) : Has w base headZ.cells [.int .i64 0, .int .i64 0, .int .i64 0, .slice none 0 0] := Has.int (n := 0) (Has.int (n := 0) (Has.int (n := 0) ⟨[], ow_nil_mrksH w, List.nodup_nil, fun p hp => by cases hp⟩))
set_option maxHeartbeats 12800000 in
theorem sRowHead_any (A : Option Addr) (n cc B : Nat) (d : List Int) (w : World) (h : Rd w B (rowCells d) [.slice A n cc]) (hB : B ≤ w.heap.size) :
    Calls Try.prog 58 #[.slice A n cc] w fun e w' => ∃ (z0 z1 z2 : Int) (A2 : Option Addr) (n2 c2 : Nat), e = .returned (.tuple #[.agg #[.int .i64 z0, .int .i64 z1, .int .i64 z2, .slice A2 n2 c2], .bool (rowHeadM d).2]) ∧ Has w' w.heap.size (rowHeadM d).1.cells [.int .i64 z0, .int .i64 z1, .int .i64 z2, .slice A2 n2 c2] ∧ Below w.heap.size w w' := by
 obtain ⟨_, _, _, e, hi, hnc, hcm⟩ := h.irow
 injection e with e1 e2 e3
 subst e1 e2 e3
 have hm := Nat.le_trans hnc hcm
 unfold maxLen at hm
 have HL := jd hi.1
 clear h
 have S := Sep.nil w w.heap.size
 have c := Below.refl w.heap.size w
 replace S := S.boxAt c.size (w.heap.size) rfl #[.int .i64 0, .int .i64 0, .int .i64 0, .slice none 0 0] 59
 replace c := al c S
 by_cases hn : n = 13
 case neg =>
  have e1 : ((n : Int) != 13) = true := by simp; omega
  have e2 : ((n : Int) == 13) = false := by simp; omega
  have HV := jd (show rowHeadM d = (headZ, false) by unfold rowHeadM; rw [twice_no (fun h9 => hn (by have := HL.out; omega))]; rfl)
  clear hi hn
  go_enter Try.func58, Try.ntmps58
  go_wp2_with fail
  generalize w.alloc (.cells #[.int .i64 0, .int .i64 0, .int .i64 0, .slice none 0 0] 59) = w1 at *
  refine wp_region_cls (fun v => True) (by kernel_rfl) (by kernel_rfl) (fun v hv => trivial) ?_
  intro CL HF HC
  repeat
   (first
      | go_big_quiet_skip
      | (go_big_quiet_want
         go_big_quiet_op
         first
          | go_big_quiet_on
          | (apply Exists.intro
             refine ⟨fun v hv => ?_, ?_⟩
             · have a0 := HF v hv
               first
                | exact rfl
                | (go_simp; exact rfl)
                | (go_simp; exact ⟨rfl, hv⟩)
             go_big_quiet_on)))
  refine wpQuiet_nil ?_
  intro w9 b9
  replace c := c.trans (b9.mono c.size)
  replace S := S.keep b9
  clear b9
  have f0 := lk S 0 0 rfl rfl
  have f1 := (S.at_ 0 rfl).free 0
  have f2 := lk S 0 1 rfl rfl
  have f3 := (S.at_ 0 rfl).free 1
  have f4 := lk S 0 2 rfl rfl
  have f5 := (S.at_ 0 rfl).free 2
  have f6 := lk S 0 3 rfl rfl
  have f7 := (S.at_ 0 rfl).free 3
  replace S := S.put 0 rfl 0 (.int .i64 0)
  replace c := st c S (by omega)
  replace S := S.put 0 rfl 1 (.int .i64 0)
  replace c := st c S (by omega)
  replace S := S.put 0 rfl 2 (.int .i64 0)
  replace c := st c S (by omega)
  replace S := S.put 0 rfl 3 (.slice none 0 0)
  replace c := st c S (by omega)
  have H := jd (has_headZ ((((w9.setCell ⟨w.heap.size, 0, none⟩ (.int .i64 0)).setCell ⟨w.heap.size, 1, none⟩ (.int .i64 0)).setCell ⟨w.heap.size, 2, none⟩ (.int .i64 0)).setCell ⟨w.heap.size, 3, none⟩ (.slice none 0 0)) w.heap.size)
  have r0 := jd ((S.at_ 0 rfl).cell 0)
  have r1 := jd ((S.at_ 0 rfl).cell 1)
  have r2 := jd ((S.at_ 0 rfl).cell 2)
  have r3 := jd ((S.at_ 0 rfl).cell 3)
  have CC := jd c
  clear S c
  go_wp2
  exact bodyPost_ret (v := .tuple #[.agg #[.int .i64 0, .int .i64 0, .int .i64 0, .slice none 0 0], .bool false]) (by simp [results, Try.results58, go_sem, r0.out, r1.out, r2.out, r3.out]) rfl ⟨_, _, _, _, _, _, by rw [HV.out], by rw [HV.out]; exact H.out, CC.out⟩
 case pos =>
  subst hn
  obtain ⟨b, off, rfl, hb, hc⟩ := hi.2 (by omega)
  obtain ⟨y0, hy0⟩ : ∃ x, x = d.getD 0 0 := ⟨_, rfl⟩
  have h0 := hc 0 (by omega)
  rw [← hy0] at h0
  obtain ⟨y1, hy1⟩ : ∃ x, x = d.getD 1 0 := ⟨_, rfl⟩
  have h1 := hc 1 (by omega)
  rw [← hy1] at h1
  obtain ⟨y2, hy2⟩ : ∃ x, x = d.getD 2 0 := ⟨_, rfl⟩
  have h2 := hc 2 (by omega)
  rw [← hy2] at h2
  obtain ⟨y11, hy11⟩ : ∃ x, x = d.getD 11 0 := ⟨_, rfl⟩
  have h11 := hc 11 (by omega)
  rw [← hy11] at h11
  obtain ⟨y12, hy12⟩ : ∃ x, x = d.getD 12 0 := ⟨_, rfl⟩
  have h12 := hc 12 (by omega)
  rw [← hy12] at h12
  rw [Nat.add_zero] at h0
  have HY := jd (And.intro hy0 (And.intro hy11 hy12))
  have HCC := jd hc
  have HOF := jd (show ofHead d = ⟨y0, y1, y2, ofMarks d 4⟩ by unfold ofHead; rw [hy0, hy1, hy2])
  clear hi hc hy0 hy1 hy2 hy11 hy12
  by_cases q11 : y11 = y0
  case neg =>
   have e11 : (y11 != y0) = true := by simpa using q11
   have E11 : (y11 == y0) = false := by simpa using q11
   have HV := jd (show rowHeadM d = (headZ, false) by unfold rowHeadM; rw [twice_no (fun h9 => q11 (by rw [HY.out.1, HY.out.2.1]; exact h9.2.1))]; rfl)
   clear q11
   go_enter Try.func58, Try.ntmps58
   go_wp2_with fail
   generalize w.alloc (.cells #[.int .i64 0, .int .i64 0, .int .i64 0, .slice none 0 0] 59) = w1 at *
   have k0 := cu c h0 (show b < _ by omega)
   have k11 := cu c h11 (show b < _ by omega)
   have k12 := cu c h12 (show b < _ by omega)
   refine wp_region_cls (fun v => v.cell? ⟨b, off, none⟩ = some (.int .i64 y0) ∧ v.cell? ⟨b, off + 11, none⟩ = some (.int .i64 y11) ∧ v.cell? ⟨b, off + 12, none⟩ = some (.int .i64 y12)) (by kernel_rfl) (by kernel_rfl) (fun v hv => ⟨cq hv k0, cq hv k11, cq hv k12⟩) ?_
   intro CL HF HC
   repeat
    (first
       | go_big_quiet_skip
       | (go_big_quiet_want
          go_big_quiet_op
          first
           | go_big_quiet_on
           | (apply Exists.intro
              refine ⟨fun v hv => ?_, ?_⟩
              · obtain ⟨a0, a1, a2⟩ := HF v hv
                first
                 | exact rfl
                 | (go_simp; exact rfl)
                 | (go_simp; exact ⟨rfl, hv⟩)
              go_big_quiet_on)))
   refine wpQuiet_nil ?_
   intro w9 b9
   replace c := c.trans (b9.mono c.size)
   replace S := S.keep b9
   clear b9 k0 k11 k12 h11 h12
   have f0 := lk S 0 0 rfl rfl
   have f1 := (S.at_ 0 rfl).free 0
   have f2 := lk S 0 1 rfl rfl
   have f3 := (S.at_ 0 rfl).free 1
   have f4 := lk S 0 2 rfl rfl
   have f5 := (S.at_ 0 rfl).free 2
   have f6 := lk S 0 3 rfl rfl
   have f7 := (S.at_ 0 rfl).free 3
   replace S := S.put 0 rfl 0 (.int .i64 0)
   replace c := st c S (by omega)
   replace S := S.put 0 rfl 1 (.int .i64 0)
   replace c := st c S (by omega)
   replace S := S.put 0 rfl 2 (.int .i64 0)
   replace c := st c S (by omega)
   replace S := S.put 0 rfl 3 (.slice none 0 0)
   replace c := st c S (by omega)
   have H := jd (has_headZ ((((w9.setCell ⟨w.heap.size, 0, none⟩ (.int .i64 0)).setCell ⟨w.heap.size, 1, none⟩ (.int .i64 0)).setCell ⟨w.heap.size, 2, none⟩ (.int .i64 0)).setCell ⟨w.heap.size, 3, none⟩ (.slice none 0 0)) w.heap.size)
   have r0 := jd ((S.at_ 0 rfl).cell 0)
   have r1 := jd ((S.at_ 0 rfl).cell 1)
   have r2 := jd ((S.at_ 0 rfl).cell 2)
   have r3 := jd ((S.at_ 0 rfl).cell 3)
   have CC := jd c
   clear S c
   go_wp2
   exact bodyPost_ret (v := .tuple #[.agg #[.int .i64 0, .int .i64 0, .int .i64 0, .slice none 0 0], .bool false]) (by simp [results, Try.results58, go_sem, r0.out, r1.out, r2.out, r3.out]) rfl ⟨_, _, _, _, _, _, by rw [HV.out], by rw [HV.out]; exact H.out, CC.out⟩
  case pos =>
   by_cases q12 : y12 = y0
   case neg =>
    have e11 : (y11 != y0) = false := by simpa using q11
    have E11 : (y11 == y0) = true := by simpa using q11
    have e12 : (y12 != y0) = true := by simpa using q12
    have E12 : (y12 == y0) = false := by simpa using q12
    have HV := jd (show rowHeadM d = (headZ, false) by unfold rowHeadM; rw [twice_no (fun h9 => q12 (by rw [HY.out.1, HY.out.2.2]; exact h9.2.2))]; rfl)
    clear q11 q12
    go_enter Try.func58, Try.ntmps58
    go_wp2_with fail
    generalize w.alloc (.cells #[.int .i64 0, .int .i64 0, .int .i64 0, .slice none 0 0] 59) = w1 at *
    have k0 := cu c h0 (show b < _ by omega)
    have k11 := cu c h11 (show b < _ by omega)
    have k12 := cu c h12 (show b < _ by omega)
    refine wp_region_cls (fun v => v.cell? ⟨b, off, none⟩ = some (.int .i64 y0) ∧ v.cell? ⟨b, off + 11, none⟩ = some (.int .i64 y11) ∧ v.cell? ⟨b, off + 12, none⟩ = some (.int .i64 y12)) (by kernel_rfl) (by kernel_rfl) (fun v hv => ⟨cq hv k0, cq hv k11, cq hv k12⟩) ?_
    intro CL HF HC
    repeat
     (first
        | go_big_quiet_skip
        | (go_big_quiet_want
           go_big_quiet_op
           first
            | go_big_quiet_on
            | (apply Exists.intro
               refine ⟨fun v hv => ?_, ?_⟩
               · obtain ⟨a0, a1, a2⟩ := HF v hv
                 first
                  | exact rfl
                  | (go_simp; exact rfl)
                  | (go_simp; exact ⟨rfl, hv⟩)
               go_big_quiet_on)))
    refine wpQuiet_nil ?_
    intro w9 b9
    replace c := c.trans (b9.mono c.size)
    replace S := S.keep b9
    clear b9 k0 k11 k12 h11 h12
    have f0 := lk S 0 0 rfl rfl
    have f1 := (S.at_ 0 rfl).free 0
    have f2 := lk S 0 1 rfl rfl
    have f3 := (S.at_ 0 rfl).free 1
    have f4 := lk S 0 2 rfl rfl
    have f5 := (S.at_ 0 rfl).free 2
    have f6 := lk S 0 3 rfl rfl
    have f7 := (S.at_ 0 rfl).free 3
    replace S := S.put 0 rfl 0 (.int .i64 0)
    replace c := st c S (by omega)
    replace S := S.put 0 rfl 1 (.int .i64 0)
    replace c := st c S (by omega)
    replace S := S.put 0 rfl 2 (.int .i64 0)
    replace c := st c S (by omega)
    replace S := S.put 0 rfl 3 (.slice none 0 0)
    replace c := st c S (by omega)
    have H := jd (has_headZ ((((w9.setCell ⟨w.heap.size, 0, none⟩ (.int .i64 0)).setCell ⟨w.heap.size, 1, none⟩ (.int .i64 0)).setCell ⟨w.heap.size, 2, none⟩ (.int .i64 0)).setCell ⟨w.heap.size, 3, none⟩ (.slice none 0 0)) w.heap.size)
    have r0 := jd ((S.at_ 0 rfl).cell 0)
    have r1 := jd ((S.at_ 0 rfl).cell 1)
    have r2 := jd ((S.at_ 0 rfl).cell 2)
    have r3 := jd ((S.at_ 0 rfl).cell 3)
    have CC := jd c
    clear S c
    go_wp2
    exact bodyPost_ret (v := .tuple #[.agg #[.int .i64 0, .int .i64 0, .int .i64 0, .slice none 0 0], .bool false]) (by simp [results, Try.results58, go_sem, r0.out, r1.out, r2.out, r3.out]) rfl ⟨_, _, _, _, _, _, by rw [HV.out], by rw [HV.out]; exact H.out, CC.out⟩
   case pos =>
    have e11 : (y11 != y0) = false := by simpa using q11
    have E11 : (y11 == y0) = true := by simpa using q11
    have e12 : (y12 != y0) = false := by simpa using q12
    have E12 : (y12 == y0) = true := by simpa using q12
    have HV := jd (show rowHeadM d = if headOkB ⟨y0, y1, y2, ofMarks d 4⟩ = true then (⟨y0, y1, y2, ofMarks d 4⟩, true) else (headZ, false) by unfold rowHeadM; rw [if_pos ((twice_iff d 11).2 ⟨HL.out, by rw [← HY.out.1, ← HY.out.2.1]; exact q11, by rw [← HY.out.1, ← HY.out.2.2]; exact q12⟩), HOF.out])
    clear q11 q12
    go_enter Try.func58, Try.ntmps58
    go_wp2_with fail
    generalize w.alloc (.cells #[.int .i64 0, .int .i64 0, .int .i64 0, .slice none 0 0] 59) = w1 at *
    have k0 := cu c h0 (show b < _ by omega)
    have k11 := cu c h11 (show b < _ by omega)
    have k12 := cu c h12 (show b < _ by omega)
    refine wp_region_cls (fun v => v.cell? ⟨b, off, none⟩ = some (.int .i64 y0) ∧ v.cell? ⟨b, off + 11, none⟩ = some (.int .i64 y11) ∧ v.cell? ⟨b, off + 12, none⟩ = some (.int .i64 y12)) (by kernel_rfl) (by kernel_rfl) (fun v hv => ⟨cq hv k0, cq hv k11, cq hv k12⟩) ?_
    intro CL HF HC
    repeat
     (first
        | go_big_quiet_skip
        | (go_big_quiet_want
           go_big_quiet_op
           first
            | go_big_quiet_on
            | (apply Exists.intro
               refine ⟨fun v hv => ?_, ?_⟩
               · obtain ⟨a0, a1, a2⟩ := HF v hv
                 first
                  | exact rfl
                  | (go_simp; exact rfl)
                  | (go_simp; exact ⟨rfl, hv⟩)
               go_big_quiet_on)))
    refine wpQuiet_nil ?_
    intro w9 b9
    replace c := c.trans (b9.mono c.size)
    replace S := S.keep b9
    clear b9 k0 k11 k12 h11 h12
    clear e11 E11 e12 E12
    go_wp2_with fail
    refine wp_region_L (fun v => v.cell? ⟨b, off, none⟩ = some (.int .i64 y0) ∧ v.cell? ⟨b, off + 1, none⟩ = some (.int .i64 y1) ∧ v.cell? ⟨b, off + 2, none⟩ = some (.int .i64 y2)) 11 (by kernel_rfl) ?_
    replace S := S.keep ((Below.refl _ _).drew)
    replace c := c.drew
    generalize w9.drew = w10 at *
    have HF : w10.cell? ⟨b, off, none⟩ = some (.int .i64 y0) ∧ w10.cell? ⟨b, off + 1, none⟩ = some (.int .i64 y1) ∧ w10.cell? ⟨b, off + 2, none⟩ = some (.int .i64 y2) := ⟨cu c h0 (show b < _ by omega), cu c h1 (show b < _ by omega), cu c h2 (show b < _ by omega)⟩
    refine tk 0 (v := ?_) rfl rfl HF (.inl ⟨by rfl, ?_⟩) ?_
    rotate_left 1
    · (rintro v ⟨a0, a1, a2⟩; go_simp; try with_reducible rfl)
    try simp only [Act.put]
    refine tk 1 (v := ?_) rfl rfl HF (.inl ⟨by rfl, ?_⟩) ?_
    rotate_left 1
    · (rintro v ⟨a0, a1, a2⟩; go_simp; try with_reducible rfl)
    try simp only [Act.put]
    refine tk 2 (v := ?_) rfl rfl HF (.inl ⟨by rfl, ?_⟩) ?_
    rotate_left 1
    · (rintro v ⟨a0, a1, a2⟩; go_simp; try with_reducible rfl)
    try simp only [Act.put]
    refine tk 3 (v := ?_) rfl rfl HF (.inl ⟨by rfl, ?_⟩) ?_
    rotate_left 1
    · (rintro v ⟨a0, a1, a2⟩; go_simp; try with_reducible rfl)
    try simp only [Act.put]
    refine tk 4 (v := ?_) rfl rfl HF (.inl ⟨by rfl, ?_⟩) ?_
    rotate_left 1
    · (rintro v ⟨a0, a1, a2⟩; go_simp; try with_reducible rfl)
    try simp only [Act.put]
    refine tk 5 (v := ?_) rfl rfl HF (.inl ⟨by rfl, ?_⟩) ?_
    rotate_left 1
    · (rintro v ⟨a0, a1, a2⟩; go_simp; try with_reducible rfl)
    try simp only [Act.put]
    refine tk 6 (v := ?_) rfl rfl HF (.inl ⟨by rfl, ?_⟩) ?_
    rotate_left 1
    · (rintro v ⟨a0, a1, a2⟩; go_simp; try with_reducible rfl)
    try simp only [Act.put]
    refine tk 7 (v := ?_) rfl rfl HF (.inl ⟨by rfl, ?_⟩) ?_
    rotate_left 1
    · (rintro v ⟨a0, a1, a2⟩; go_simp; try with_reducible rfl)
    try simp only [Act.put]
    refine tk 8 (v := ?_) rfl rfl HF (.inl ⟨by rfl, ?_⟩) ?_
    rotate_left 1
    · (rintro v ⟨a0, a1, a2⟩; go_simp; try with_reducible rfl)
    try simp only [Act.put]
    refine tk 9 (v := ?_) rfl rfl HF (.inl ⟨by rfl, ?_⟩) ?_
    rotate_left 1
    · (rintro v ⟨a0, a1, a2⟩; go_simp; try with_reducible rfl)
    try simp only [Act.put]
    refine wpAnyL_step (i := 10) (by kernel_rfl) rfl rfl ?_
    intro K hK
    go_simp
    replace S := S.boxAt c.size (w10.heap.size) rfl #[.int .i64 0, .int .i64 0, .int .i64 0, .slice none 0 0] 59
    replace c := al c S
    clear HF
    have HF : (w10.alloc (.cells #[.int .i64 0, .int .i64 0, .int .i64 0, .slice none 0 0] 59)).cell? ⟨b, off, none⟩ = some (.int .i64 y0) ∧ (w10.alloc (.cells #[.int .i64 0, .int .i64 0, .int .i64 0, .slice none 0 0] 59)).cell? ⟨b, off + 1, none⟩ = some (.int .i64 y1) ∧ (w10.alloc (.cells #[.int .i64 0, .int .i64 0, .int .i64 0, .slice none 0 0] 59)).cell? ⟨b, off + 2, none⟩ = some (.int .i64 y2) := ⟨cu c h0 (show b < _ by omega), cu c h1 (show b < _ by omega), cu c h2 (show b < _ by omega)⟩
    refine hK _ _ (fun _ => HF) ?_
    clear hK K
    try simp only [Act.put]
    generalize hw : w10.alloc (.cells #[.int .i64 0, .int .i64 0, .int .i64 0, .slice none 0 0] 59) = w11 at *
    clear hw
    obtain ⟨qo, hqo⟩ : ∃ q, q = w10.heap.size := ⟨_, rfl⟩
    rw [← hqo] at S ⊢
    clear hqo
    have f0 := lk S 0 0 rfl rfl
    have f1 := (S.at_ 0 rfl).free 0
    have f2 := lk S 0 1 rfl rfl
    have f3 := (S.at_ 0 rfl).free 1
    have f4 := lk S 0 2 rfl rfl
    have f5 := (S.at_ 0 rfl).free 2
    have f6 := lk S 0 3 rfl rfl
    have f7 := (S.at_ 0 rfl).free 3
    refine wpAnyL_step (i := 11) (by kernel_rfl) rfl rfl ?_
    intro K hK
    go_simp
    refine hK _ _ (fun h => nomatch (show true = false from h)) ?_
    clear hK K
    try simp only [Act.put]
    refine wpAnyL_done (by kernel_rfl) ?_ _
    replace S := S.put 0 rfl 0 (.int .i64 y0)
    replace c := st c S (S.base_le 0 rfl)
    replace S := S.put 0 rfl 1 (.int .i64 y1)
    replace c := st c S (S.base_le 0 rfl)
    replace S := S.put 0 rfl 2 (.int .i64 y2)
    replace c := st c S (S.base_le 0 rfl)
    replace S := S.put 0 rfl 3 (.slice none 0 0)
    replace c := st c S (S.base_le 0 rfl)
    clear HF
    generalize (((w11.setCell ⟨qo, 0, none⟩ (.int .i64 y0)).setCell ⟨qo, 1, none⟩ (.int .i64 y1)).setCell ⟨qo, 2, none⟩ (.int .i64 y2)).setCell ⟨qo, 3, none⟩ (.slice none 0 0) = w12 at *
    clear f0 f1 f2 f3 f4 f5 f6 f7
    replace S := S.own0 (ow_nil_mrksH w12)
    clear h0 h1 h2
    go_wp2
    have S0 := jd S
    have B0 := jd c
    clear S c
    go_loopw [5] (fun k wr => ∃ (j : Nat) (G : Option Addr) (m gc : Nat) (fp : List Nat), j ≤ 4 ∧ k = .int .i64 (2 + (j : Int)) ∧ m ≤ j ∧ Sep wr w.heap.size [.own [mrkD (ofMarks d j)] [.slice G m gc] fp, .blk qo #[.int .i64 y0, .int .i64 y1, .int .i64 y2, .slice G m gc] 59, .blk w.heap.size #[.int .i64 0, .int .i64 0, .int .i64 0, .slice none 0 0] 59] ∧ Below w.heap.size w wr) (fun k _ => 6 - (intOf k).toNat)
    case atStart => exact ⟨0, none, 0, 0, [], Nat.zero_le _, rfl, Nat.le_refl _, S0.out, B0.out⟩
    case round =>
     obtain ⟨j, G, m, gc, fp, hj, rfl, hm, S, c⟩ := hrel
     clear S0 B0
     by_cases hlt : j < 4
     case neg =>
      obtain rfl : j = 4 := by omega
      have d0 : decide ((2 : Int) + ((4 : Nat) : Int) ≤ 5) = false := by decide
      clear hj hlt
      have f8 := lk S 1 0 rfl rfl
      have f9 := lk S 1 1 rfl rfl
      have f10 := lk S 1 2 rfl rfl
      have f11 := lk S 1 3 rfl rfl
      go_wp2_with fail
      refine (sHeadOk_any y0 y1 y2 G m gc _ (ofMarks d 4) _ ((S.own_ 0 rfl).rd) (Nat.le_refl _) (by have := ofMarks_len d 4; unfold mrkSz; omega)).mono ?_
      rintro e w13 ⟨rfl, b2⟩
      replace c := c.trans (b2.mono c.size)
      replace S := S.keep b2
      clear b2 f8 f9 f10 f11
      cases hok : headOkB ⟨y0, y1, y2, ofMarks d 4⟩
      case false =>
       replace HV := jd (HV.out.trans (if_neg (by rw [hok]; decide)))
       clear hok
       have f12 := lk S 2 0 rfl rfl
       have f13 := (S.at_ 2 rfl).free 0
       have f14 := lk S 2 1 rfl rfl
       have f15 := (S.at_ 2 rfl).free 1
       have f16 := lk S 2 2 rfl rfl
       have f17 := (S.at_ 2 rfl).free 2
       have f18 := lk S 2 3 rfl rfl
       have f19 := (S.at_ 2 rfl).free 3
       replace S := S.put 2 rfl 0 (.int .i64 0)
       replace c := st c S (by omega)
       replace S := S.put 2 rfl 1 (.int .i64 0)
       replace c := st c S (by omega)
       replace S := S.put 2 rfl 2 (.int .i64 0)
       replace c := st c S (by omega)
       replace S := S.put 2 rfl 3 (.slice none 0 0)
       replace c := st c S (by omega)
       have H := jd (has_headZ ((((w13.setCell ⟨w.heap.size, 0, none⟩ (.int .i64 0)).setCell ⟨w.heap.size, 1, none⟩ (.int .i64 0)).setCell ⟨w.heap.size, 2, none⟩ (.int .i64 0)).setCell ⟨w.heap.size, 3, none⟩ (.slice none 0 0)) w.heap.size)
       have r0 := jd ((S.at_ 2 rfl).cell 0)
       have r1 := jd ((S.at_ 2 rfl).cell 1)
       have r2 := jd ((S.at_ 2 rfl).cell 2)
       have r3 := jd ((S.at_ 2 rfl).cell 3)
       have CC := jd c
       clear S c
       go_wp2
       exact bodyPost_ret (v := .tuple #[.agg #[.int .i64 0, .int .i64 0, .int .i64 0, .slice none 0 0], .bool false]) (by simp [results, Try.results58, go_sem, r0.out, r1.out, r2.out, r3.out]) rfl ⟨_, _, _, _, _, _, by rw [HV.out], by rw [HV.out]; exact H.out, CC.out⟩
      case true =>
       replace HV := jd (HV.out.trans (if_pos hok))
       clear hok
       have f12 := lk S 1 0 rfl rfl
       have f13 := lk S 1 1 rfl rfl
       have f14 := lk S 1 2 rfl rfl
       have f15 := lk S 1 3 rfl rfl
       have f16 := lk S 2 0 rfl rfl
       have f17 := (S.at_ 2 rfl).free 0
       have f18 := lk S 2 1 rfl rfl
       have f19 := (S.at_ 2 rfl).free 1
       have f20 := lk S 2 2 rfl rfl
       have f21 := (S.at_ 2 rfl).free 2
       have f22 := lk S 2 3 rfl rfl
       have f23 := (S.at_ 2 rfl).free 3
       replace S := S.put 2 rfl 0 (.int .i64 y0)
       replace c := st c S (by omega)
       replace S := S.put 2 rfl 1 (.int .i64 y1)
       replace c := st c S (by omega)
       replace S := S.put 2 rfl 2 (.int .i64 y2)
       replace c := st c S (by omega)
       replace S := S.put 2 rfl 3 (.slice G m gc)
       replace c := st c S (by omega)
       have H := jd (Has.int (n := y0) (Has.int (n := y1) (Has.int (n := y2) S.first)))
       have r0 := jd ((S.at_ 2 rfl).cell 0)
       have r1 := jd ((S.at_ 2 rfl).cell 1)
       have r2 := jd ((S.at_ 2 rfl).cell 2)
       have r3 := jd ((S.at_ 2 rfl).cell 3)
       have CC := jd c
       clear S c
       go_wp2
       exact bodyPost_ret (v := .tuple #[.agg #[.int .i64 y0, .int .i64 y1, .int .i64 y2, .slice G m gc], .bool true]) (by simp [results, Try.results58, go_sem, r0.out, r1.out, r2.out, r3.out]) rfl ⟨_, _, _, _, _, _, by rw [HV.out], by rw [HV.out]; exact H.out, CC.out⟩
     case pos =>
      have d0 : decide ((2 : Int) + (j : Int) ≤ 5) = true := decide_eq_true (by omega)
      obtain ⟨p, hp⟩ : ∃ p : Nat, p = 2 * j + 3 := ⟨_, rfl⟩
      obtain ⟨q, hq⟩ : ∃ q : Nat, q = 2 * j + 4 := ⟨_, rfl⟩
      have hw1 : IntKind.i64.wrap (2 * (2 + (j : Int))) = (q : Int) := by rw [IntKind.wrap_i64]; omega
      have hw2 : IntKind.i64.wrap ((q : Int) - 1) = (p : Int) := by rw [IntKind.wrap_i64]; omega
      have wp : IntKind.i64.wrap (p : Int) = (p : Int) := by rw [IntKind.wrap_i64]; omega
      have wq : IntKind.i64.wrap (q : Int) = (q : Int) := by rw [IntKind.wrap_i64]; omega
      have p0 : (0 : Int) ≤ (p : Int) := by omega
      have p1 : (p : Int) < 13 := by omega
      have q0 : (0 : Int) ≤ (q : Int) := by omega
      have q1 : (q : Int) < 13 := by omega
      obtain ⟨u1, hu1⟩ : ∃ x, x = d.getD p 0 := ⟨_, rfl⟩
      obtain ⟨u2, hu2⟩ : ∃ x, x = d.getD q 0 := ⟨_, rfl⟩
      have t1 := HCC.out p (by omega)
      have t2 := HCC.out q (by omega)
      rw [← hu1] at t1
      rw [← hu2] at t2
      have HMI := jd (show markIn d j = ⟨2 + (j : Int), u1, u2⟩ by unfold markIn; rw [hu1, hu2, hp, hq])
      clear hp hq hu1 hu2
      go_wp2_with fail
      refine wp_region_L (fun v => v.cell? ⟨b, off + p, none⟩ = some (.int .i64 u1) ∧ v.cell? ⟨b, off + q, none⟩ = some (.int .i64 u2)) 14 (by kernel_rfl) ?_
      replace S := S.keep ((Below.refl _ _).drew)
      replace c := c.drew
      generalize wr.drew = w13 at *
      have HF : w13.cell? ⟨b, off + p, none⟩ = some (.int .i64 u1) ∧ w13.cell? ⟨b, off + q, none⟩ = some (.int .i64 u2) := ⟨cu c t1 (show b < _ by omega), cu c t2 (show b < _ by omega)⟩
      refine tk 0 (v := ?_) rfl rfl HF (.inl ⟨by rfl, ?_⟩) ?_
      rotate_left 1
      · (rintro v ⟨a0, a1⟩; go_simp; try with_reducible rfl)
      try simp only [Act.put]
      refine tk 1 (v := ?_) rfl rfl HF (.inl ⟨by rfl, ?_⟩) ?_
      rotate_left 1
      · (rintro v ⟨a0, a1⟩; go_simp; try with_reducible rfl)
      try simp only [Act.put]
      refine tk 2 (v := ?_) rfl rfl HF (.inl ⟨by rfl, ?_⟩) ?_
      rotate_left 1
      · (rintro v ⟨a0, a1⟩; go_simp; try with_reducible rfl)
      try simp only [Act.put]
      refine tk 3 (v := ?_) rfl rfl HF (.inl ⟨by rfl, ?_⟩) ?_
      rotate_left 1
      · (rintro v ⟨a0, a1⟩; go_simp; try with_reducible rfl)
      try simp only [Act.put]
      refine tk 4 (v := ?_) rfl rfl HF (.inl ⟨by rfl, ?_⟩) ?_
      rotate_left 1
      · (rintro v ⟨a0, a1⟩; go_simp; try with_reducible rfl)
      try simp only [Act.put]
      refine tk 5 (v := ?_) rfl rfl HF (.inl ⟨by rfl, ?_⟩) ?_
      rotate_left 1
      · (rintro v ⟨a0, a1⟩; go_simp; try with_reducible rfl)
      try simp only [Act.put]
      refine tk 6 (v := ?_) rfl rfl HF (.inl ⟨by rfl, ?_⟩) ?_
      rotate_left 1
      · (rintro v ⟨a0, a1⟩; go_simp; try with_reducible rfl)
      try simp only [Act.put]
      refine tk 7 (v := ?_) rfl rfl HF (.inl ⟨by rfl, ?_⟩) ?_
      rotate_left 1
      · (rintro v ⟨a0, a1⟩; go_simp; try with_reducible rfl)
      try simp only [Act.put]
      refine tk 8 (v := ?_) rfl rfl HF (.inl ⟨by rfl, ?_⟩) ?_
      rotate_left 1
      · (rintro v ⟨a0, a1⟩; go_simp; try with_reducible rfl)
      try simp only [Act.put]
      refine tk 9 (v := ?_) rfl rfl HF (.inl ⟨by rfl, ?_⟩) ?_
      rotate_left 1
      · (rintro v ⟨a0, a1⟩; go_simp; try with_reducible rfl)
      try simp only [Act.put]
      refine tk 10 (v := ?_) rfl rfl HF (.inl ⟨by rfl, ?_⟩) ?_
      rotate_left 1
      · (rintro v ⟨a0, a1⟩; go_simp; try with_reducible rfl)
      try simp only [Act.put]
      refine tk 11 (v := ?_) rfl rfl HF (.inl ⟨by rfl, ?_⟩) ?_
      rotate_left 1
      · (rintro v ⟨a0, a1⟩; go_simp; try with_reducible rfl)
      try simp only [Act.put]
      refine tk 12 (v := ?_) rfl rfl HF (.inl ⟨by rfl, ?_⟩) ?_
      rotate_left 1
      · (rintro v ⟨a0, a1⟩; go_simp; try with_reducible rfl)
      try simp only [Act.put]
      refine wpAnyL_step (i := 13) (by kernel_rfl) rfl rfl ?_
      intro K hK
      go_simp
      replace S := S.boxAt c.size (w13.heap.size) rfl #[.int .i64 0, .int .i64 0, .int .i64 0] 103
      replace c := al c S
      clear HF
      have HF : (w13.alloc (.cells #[.int .i64 0, .int .i64 0, .int .i64 0] 103)).cell? ⟨b, off + p, none⟩ = some (.int .i64 u1) ∧ (w13.alloc (.cells #[.int .i64 0, .int .i64 0, .int .i64 0] 103)).cell? ⟨b, off + q, none⟩ = some (.int .i64 u2) := ⟨cu c t1 (show b < _ by omega), cu c t2 (show b < _ by omega)⟩
      refine hK _ _ (fun _ => HF) ?_
      clear hK K
      try simp only [Act.put]
      generalize hw : w13.alloc (.cells #[.int .i64 0, .int .i64 0, .int .i64 0] 103) = w14 at *
      clear hw
      obtain ⟨qm, hqm⟩ : ∃ q, q = w13.heap.size := ⟨_, rfl⟩
      rw [← hqm] at S ⊢
      clear hqm
      have f8 := lk S 0 0 rfl rfl
      have f9 := (S.at_ 0 rfl).free 0
      have f10 := lk S 0 1 rfl rfl
      have f11 := (S.at_ 0 rfl).free 1
      have f12 := lk S 0 2 rfl rfl
      have f13 := (S.at_ 0 rfl).free 2
      refine wpAnyL_step (i := 14) (by kernel_rfl) rfl rfl ?_
      intro K hK
      go_simp
      refine hK _ _ (fun h => nomatch (show true = false from h)) ?_
      clear hK K
      try simp only [Act.put]
      refine wpAnyL_done (by kernel_rfl) ?_ _
      replace S := S.put 0 rfl 0 (.int .i64 (2 + (j : Int)))
      replace c := st c S (S.base_le 0 rfl)
      replace S := S.put 0 rfl 1 (.int .i64 u1)
      replace c := st c S (S.base_le 0 rfl)
      replace S := S.put 0 rfl 2 (.int .i64 u2)
      replace c := st c S (S.base_le 0 rfl)
      clear HF
      generalize ((w14.setCell ⟨qm, 0, none⟩ (.int .i64 (2 + (j : Int)))).setCell ⟨qm, 1, none⟩ (.int .i64 u1)).setCell ⟨qm, 2, none⟩ (.int .i64 u2) = w15 at *
      clear f8 f9 f10 f11 f12 f13
      clear t1 t2 hw1 hw2 wp wq p0 p1 q0 q1
      by_cases hz : u1 = 0 ∧ u2 = 0
      case pos =>
       have e1 : (u1 != 0) = false := by simpa using hz.1
       have e2 : (u2 != 0) = false := by simpa using hz.2
       have e3 : (u1 == 0) = true := by simpa using hz.1
       have e4 : (u2 == 0) = true := by simpa using hz.2
       have HN := jd (ofMarks_no (r := d) (k := j) (by rw [HMI.out]; exact hz))
       clear hz
       have f14 := lk S 0 0 rfl rfl
       have f15 := lk S 0 1 rfl rfl
       have f16 := lk S 0 2 rfl rfl
       rw [← HN.out] at S
       replace S := S.tail
       have SS := jd S
       have CC := jd c
       clear S c
       go_wp2
       go_roundw
       case rel => exact ⟨j + 1, G, m, gc, fp, by omega, by go_num, by omega, SS.out, CC.out⟩
       case measure => simp [intOf] <;> omega
      case neg =>
       have HN := jd ((ofMarks_yes (r := d) (k := j) (by rw [HMI.out]; show u1 ≠ 0 ∨ u2 ≠ 0; omega)).trans (by rw [HMI.out] : _ = ofMarks d j ++ [⟨2 + (j : Int), u1, u2⟩]))
       have hgs : (u1 ≠ 0) ∨ (u1 = 0 ∧ u2 ≠ 0) := by omega
       have HGS := jd hgs
       clear hz hgs
       have HE : ∃ g1 g2 : Bool, (u1 != 0) = g1 ∧ (u2 != 0) = g2 ∧ (g1 = true ∨ (g1 = false ∧ g2 = true)) := ⟨_, _, rfl, rfl, by have := HGS.out; simp; omega⟩
       obtain ⟨g1, g2, e1, e2, hg⟩ := HE
       rcases hg with rfl | ⟨rfl, rfl⟩
       · have f14 : w15.cell? ⟨qm, 0, none⟩ = some (.int .i64 (2 + (j : Int))) := (S.at_ 0 rfl).cell 0
         have f15 := lk S 0 1 rfl rfl
         have f16 := lk S 0 2 rfl rfl
         have f17 := lk S 2 0 rfl rfl
         have f18 := lk S 2 1 rfl rfl
         have f19 := lk S 2 2 rfl rfl
         have f20 := lk S 2 3 rfl rfl
         replace S := S.pick 1 rfl
         replace S := S.boxAt c.size (w15.heap.size) rfl #[.int .i64 (2 + (j : Int)), .int .i64 u1, .int .i64 u2] 103
         replace c := al c S
         have HC : ∀ i, i < 3 → (w15.alloc (.cells #[.int .i64 (2 + (j : Int)), .int .i64 u1, .int .i64 u2] 103)).cell? ⟨w15.heap.size, i, none⟩ = [Value.int .i64 (2 + (j : Int)), Value.int .i64 u1, Value.int .i64 u2][i]? := fun i hi => by
          have h1 := (S.at_ 0 rfl).cell i
          rw [h1]
          simp
         replace S := (S.tail).own0 (ds := mrkC ⟨2 + (j : Int), u1, u2⟩) (vs := [.int .i64 (2 + (j : Int)), .int .i64 u1, .int .i64 u2]) (.int (.int (.int .nil)))
         replace S := S.swap
         have hgc := jd c
         go_wp2_with (first
          | (at_builtin
             refine wpList_append_elem (l := ofMarks d j) (y := ⟨2 + (j : Int), u1, u2⟩) rfl (.tmp 65) (.tmp 67) (by rfl) Try.underlying57 infoMark (by rfl) (by decide) mrkC_len (by rfl) (S.own_ 0 rfl) (S.nodup_own 0 rfl) (by rfl) HC (S.own_ 1 rfl) (S.nodup_own 1 rfl) S.apart (by omega) (by omega) ?_
             intro A3 c3 v3 fp3 o3 n3 s3 t3
             have S3 := S.merge t3 o3 n3 s3 hgc.out.size
             have g3 : v3.cell? ⟨qo, 3, none⟩ = some (.slice G m gc) := (S3.at_ 2 rfl).cell 3
             have g4 := (S3.at_ 2 rfl).free 3))
         have C3 := hgc.out.trans (S.below 0 rfl t3 hgc.out.size)
         replace C3 := C3.setCell (p := ⟨qo, 3, none⟩) (S3.base_le 2 rfl) (.slice A3 (m + 1) c3)
         replace S3 := S3.put 2 rfl 3 (.slice A3 (m + 1) c3)
         clear S c o3 n3 s3 t3 HC hgc g3 g4 f14 f15 f16 f17 f18 f19 f20
         replace S3 := S3.sub (.cons_cons _ (.cons _ (.cons_cons _ (.cons_cons _ (List.nil_sublist _)))))
         rw [← HN.out] at S3
         have SS := jd S3
         have CC := jd C3
         clear S3 C3
         go_roundw
         case rel => exact ⟨j + 1, A3, m + 1, c3, fp3, by omega, by go_num, by omega, SS.out, CC.out⟩
         case measure => simp [intOf] <;> omega
       · have f14 : w15.cell? ⟨qm, 0, none⟩ = some (.int .i64 (2 + (j : Int))) := (S.at_ 0 rfl).cell 0
         have f15 := lk S 0 1 rfl rfl
         have f16 := lk S 0 2 rfl rfl
         have f17 := lk S 2 0 rfl rfl
         have f18 := lk S 2 1 rfl rfl
         have f19 := lk S 2 2 rfl rfl
         have f20 := lk S 2 3 rfl rfl
         replace S := S.pick 1 rfl
         replace S := S.boxAt c.size (w15.heap.size) rfl #[.int .i64 (2 + (j : Int)), .int .i64 u1, .int .i64 u2] 103
         replace c := al c S
         have HC : ∀ i, i < 3 → (w15.alloc (.cells #[.int .i64 (2 + (j : Int)), .int .i64 u1, .int .i64 u2] 103)).cell? ⟨w15.heap.size, i, none⟩ = [Value.int .i64 (2 + (j : Int)), Value.int .i64 u1, Value.int .i64 u2][i]? := fun i hi => by
          have h1 := (S.at_ 0 rfl).cell i
          rw [h1]
          simp
         replace S := (S.tail).own0 (ds := mrkC ⟨2 + (j : Int), u1, u2⟩) (vs := [.int .i64 (2 + (j : Int)), .int .i64 u1, .int .i64 u2]) (.int (.int (.int .nil)))
         replace S := S.swap
         have hgc := jd c
         go_wp2_with (first
          | (at_builtin
             refine wpList_append_elem (l := ofMarks d j) (y := ⟨2 + (j : Int), u1, u2⟩) rfl (.tmp 65) (.tmp 67) (by rfl) Try.underlying57 infoMark (by rfl) (by decide) mrkC_len (by rfl) (S.own_ 0 rfl) (S.nodup_own 0 rfl) (by rfl) HC (S.own_ 1 rfl) (S.nodup_own 1 rfl) S.apart (by omega) (by omega) ?_
             intro A3 c3 v3 fp3 o3 n3 s3 t3
             have S3 := S.merge t3 o3 n3 s3 hgc.out.size
             have g3 : v3.cell? ⟨qo, 3, none⟩ = some (.slice G m gc) := (S3.at_ 2 rfl).cell 3
             have g4 := (S3.at_ 2 rfl).free 3))
         have C3 := hgc.out.trans (S.below 0 rfl t3 hgc.out.size)
         replace C3 := C3.setCell (p := ⟨qo, 3, none⟩) (S3.base_le 2 rfl) (.slice A3 (m + 1) c3)
         replace S3 := S3.put 2 rfl 3 (.slice A3 (m + 1) c3)
         clear S c o3 n3 s3 t3 HC hgc g3 g4 f14 f15 f16 f17 f18 f19 f20
         replace S3 := S3.sub (.cons_cons _ (.cons _ (.cons_cons _ (.cons_cons _ (List.nil_sublist _)))))
         rw [← HN.out] at S3
         have SS := jd S3
         have CC := jd C3
         clear S3 C3
         go_roundw
         case rel => exact ⟨j + 1, A3, m + 1, c3, fp3, by omega, by go_num, by omega, SS.out, CC.out⟩
         case measure => simp [intOf] <;> omega
end Go.Proofs.Ytecihkkagpbkdaa

/- Parts of my texts: HeadS3. -/
import Derived.Test.YtmjifhjhialcbaaGreatK14
import Derived.Test.YtmjifhjhialcbaaGreatK16
namespace Go.Proofs.YtmjifhjhialcbaaGreat
set_option maxRecDepth 100000
set_option linter.unusedVariables false
open Go.RowKit
theorem sRowEnt_rd (A : Option Addr) (n c : Nat) (d0 : List Int) (w : World) (h : Rd w w.heap.size (rowCells d0) [.slice A n c]) :
    Calls Tryz.prog 185 #[.slice A n c] w fun e w' => e = .returned (.tuple #[.agg #[.int .i64 (rowEntM d0).1.idx, .int .i64 (rowEntM d0).1.tm, .int .i64 (rowEntM d0).1.cl, .int .i64 (rowEntM d0).1.sq, .int .i64 (rowEntM d0).1.kd, .int .i64 (rowEntM d0).1.oa, .int .i64 (rowEntM d0).1.ob, .int .i64 (rowEntM d0).1.oc, .int .i64 (rowEntM d0).1.od], .bool (rowEntM d0).2]) ∧ Below w.heap.size w w' := by
 obtain ⟨_, _, _, e, hi, hnc, hcm⟩ := h.irow
 injection e with e1 e2 e3
 subst e1 e2 e3
 exact sRowEnt_any A n c w.heap.size d0 w hi (Nat.le_refl _) (Nat.le_trans hnc hcm) hnc
theorem rd_take {w : World} {B : Nat} {d : List Int} {A : Option Addr} {n c k : Nat} (h : Rd w B (rowCells d) [.slice A n c]) (hk : k ≤ n) : Rd w B (rowCells (d.take k)) [.slice A k c] := by
 obtain ⟨_, _, _, e, hi, hnc, hcm⟩ := h.irow
 injection e with e1 e2 e3
 subst e1 e2 e3
 exact (hi.take hk).rd (by omega) hcm
set_option maxHeartbeats 12800000 in
theorem sRowSlot_any (A : Option Addr) (n cc B : Nat) (d : List Int) (w : World) (h : Rd w B (rowCells d) [.slice A n cc]) (hB : B ≤ w.heap.size) :
    Calls Tryz.prog 138 #[.slice A n cc] w fun e w' => e = .returned (.tuple #[.agg #[.int .i64 (rowSlotM d).1.idx, .int .i64 (rowSlotM d).1.tm, .int .i64 (rowSlotM d).1.cl, .int .i64 (rowSlotM d).1.sq, .int .i64 (rowSlotM d).1.kd, .int .i64 (rowSlotM d).1.oa, .int .i64 (rowSlotM d).1.ob, .int .i64 (rowSlotM d).1.oc, .int .i64 (rowSlotM d).1.od], .bool (rowSlotM d).2]) ∧ Below w.heap.size w w' := by
 have HH := jd h
 obtain ⟨_, _, _, e, hi, hnc, hcm⟩ := h.irow
 injection e with e1 e2 e3
 subst e1 e2 e3
 have hm := Nat.le_trans hnc hcm
 unfold maxLen at hm
 have HL := jd hi.1
 clear h
 have S := Sep.nil w w.heap.size
 have c := Below.refl w.heap.size w
 replace S := S.boxAt c.size (w.heap.size) rfl #[.int .i64 0, .int .i64 0, .int .i64 0, .int .i64 0, .int .i64 0, .int .i64 0, .int .i64 0, .int .i64 0, .int .i64 0] 87
 replace c := al c S
 by_cases hn : n = 11
 case neg =>
  have e1 : ((n : Int) != 11) = true := by simp; omega
  have e2 : ((n : Int) == 11) = false := by simp; omega
  have HV := jd (show rowSlotM d = (ent0, false) by unfold rowSlotM; rw [twice_no (fun h9 => hn (by have := HL.out; omega))]; rfl)
  clear hi hn
  go_enter Tryz.func138, Tryz.ntmps138
  go_wp2_with fail
  generalize w.alloc (.cells #[.int .i64 0, .int .i64 0, .int .i64 0, .int .i64 0, .int .i64 0, .int .i64 0, .int .i64 0, .int .i64 0, .int .i64 0] 87) = w1 at *
  refine wp_region_cls (fun v => True) (by kernel_rfl) (by kernel_rfl) (fun v hv => trivial) ?_
  intro CL HF HC
  repeat
   (first
      | go_big_quiet_skip
      | (go_big_quiet_want
         go_big_quiet_op
         first
          | go_big_quiet_on
          | (apply Exists.intro
             refine ⟨fun v hv => ?_, ?_⟩
             · have a0 := HF v hv
               first
                | exact rfl
                | (go_simp; exact rfl)
                | (go_simp; exact ⟨rfl, hv⟩)
             go_big_quiet_on)))
  refine wpQuiet_nil ?_
  intro w9 b9
  replace c := c.trans (b9.mono c.size)
  replace S := S.keep b9
  clear b9
  have f0 := lk S 0 0 rfl rfl
  have f1 := (S.at_ 0 rfl).free 0
  have f2 := lk S 0 1 rfl rfl
  have f3 := (S.at_ 0 rfl).free 1
  have f4 := lk S 0 2 rfl rfl
  have f5 := (S.at_ 0 rfl).free 2
  have f6 := lk S 0 3 rfl rfl
  have f7 := (S.at_ 0 rfl).free 3
  have f8 := lk S 0 4 rfl rfl
  have f9 := (S.at_ 0 rfl).free 4
  have f10 := lk S 0 5 rfl rfl
  have f11 := (S.at_ 0 rfl).free 5
  have f12 := lk S 0 6 rfl rfl
  have f13 := (S.at_ 0 rfl).free 6
  have f14 := lk S 0 7 rfl rfl
  have f15 := (S.at_ 0 rfl).free 7
  have f16 := lk S 0 8 rfl rfl
  have f17 := (S.at_ 0 rfl).free 8
  replace S := S.put 0 rfl 0 (.int .i64 0)
  replace c := st c S (by omega)
  replace S := S.put 0 rfl 1 (.int .i64 0)
  replace c := st c S (by omega)
  replace S := S.put 0 rfl 2 (.int .i64 0)
  replace c := st c S (by omega)
  replace S := S.put 0 rfl 3 (.int .i64 0)
  replace c := st c S (by omega)
  replace S := S.put 0 rfl 4 (.int .i64 0)
  replace c := st c S (by omega)
  replace S := S.put 0 rfl 5 (.int .i64 0)
  replace c := st c S (by omega)
  replace S := S.put 0 rfl 6 (.int .i64 0)
  replace c := st c S (by omega)
  replace S := S.put 0 rfl 7 (.int .i64 0)
  replace c := st c S (by omega)
  replace S := S.put 0 rfl 8 (.int .i64 0)
  replace c := st c S (by omega)
  have r0 := jd ((S.at_ 0 rfl).cell 0)
  have r1 := jd ((S.at_ 0 rfl).cell 1)
  have r2 := jd ((S.at_ 0 rfl).cell 2)
  have r3 := jd ((S.at_ 0 rfl).cell 3)
  have r4 := jd ((S.at_ 0 rfl).cell 4)
  have r5 := jd ((S.at_ 0 rfl).cell 5)
  have r6 := jd ((S.at_ 0 rfl).cell 6)
  have r7 := jd ((S.at_ 0 rfl).cell 7)
  have r8 := jd ((S.at_ 0 rfl).cell 8)
  have CC := jd c
  clear S c
  go_wp2
  exact bodyPost_ret (v := .tuple #[.agg #[.int .i64 0, .int .i64 0, .int .i64 0, .int .i64 0, .int .i64 0, .int .i64 0, .int .i64 0, .int .i64 0, .int .i64 0], .bool false]) (by simp [results, Tryz.results138, go_sem, r0.out, r1.out, r2.out, r3.out, r4.out, r5.out, r6.out, r7.out, r8.out]) rfl ⟨by first | (rw [HV.out]; done) | (rw [HV.out]; rfl), CC.out⟩
 case pos =>
  subst hn
  obtain ⟨b, off, rfl, hb, hc⟩ := hi.2 (by omega)
  obtain ⟨y0, hy0⟩ : ∃ x, x = d.getD 0 0 := ⟨_, rfl⟩
  have h0 := hc 0 (by omega)
  rw [← hy0] at h0
  obtain ⟨y9, hy9⟩ : ∃ x, x = d.getD 9 0 := ⟨_, rfl⟩
  have h9 := hc 9 (by omega)
  rw [← hy9] at h9
  obtain ⟨y10, hy10⟩ : ∃ x, x = d.getD 10 0 := ⟨_, rfl⟩
  have h10 := hc 10 (by omega)
  rw [← hy10] at h10
  rw [Nat.add_zero] at h0
  have HY := jd (And.intro hy0 (And.intro hy9 hy10))
  clear hi hc hy0 hy9 hy10
  by_cases q9 : y9 = y0
  case neg =>
   have e9 : (y9 != y0) = true := by simpa using q9
   have E9 : (y9 == y0) = false := by simpa using q9
   have HV := jd (show rowSlotM d = (ent0, false) by unfold rowSlotM; rw [twice_no (fun h9 => q9 (by rw [HY.out.1, HY.out.2.1]; exact h9.2.1))]; rfl)
   clear q9
   go_enter Tryz.func138, Tryz.ntmps138
   go_wp2_with fail
   generalize w.alloc (.cells #[.int .i64 0, .int .i64 0, .int .i64 0, .int .i64 0, .int .i64 0, .int .i64 0, .int .i64 0, .int .i64 0, .int .i64 0] 87) = w1 at *
   have k0 := cu c h0 (show b < _ by omega)
   have k9 := cu c h9 (show b < _ by omega)
   have k10 := cu c h10 (show b < _ by omega)
   refine wp_region_cls (fun v => v.cell? ⟨b, off, none⟩ = some (.int .i64 y0) ∧ v.cell? ⟨b, off + 9, none⟩ = some (.int .i64 y9) ∧ v.cell? ⟨b, off + 10, none⟩ = some (.int .i64 y10)) (by kernel_rfl) (by kernel_rfl) (fun v hv => ⟨cq hv k0, cq hv k9, cq hv k10⟩) ?_
   intro CL HF HC
   repeat
    (first
       | go_big_quiet_skip
       | (go_big_quiet_want
          go_big_quiet_op
          first
           | go_big_quiet_on
           | (apply Exists.intro
              refine ⟨fun v hv => ?_, ?_⟩
              · obtain ⟨a0, a1, a2⟩ := HF v hv
                first
                 | exact rfl
                 | (go_simp; exact rfl)
                 | (go_simp; exact ⟨rfl, hv⟩)
              go_big_quiet_on)))
   refine wpQuiet_nil ?_
   intro w9 b9
   replace c := c.trans (b9.mono c.size)
   replace S := S.keep b9
   clear b9 k0 k9 k10 h0 h9 h10
   have f0 := lk S 0 0 rfl rfl
   have f1 := (S.at_ 0 rfl).free 0
   have f2 := lk S 0 1 rfl rfl
   have f3 := (S.at_ 0 rfl).free 1
   have f4 := lk S 0 2 rfl rfl
   have f5 := (S.at_ 0 rfl).free 2
   have f6 := lk S 0 3 rfl rfl
   have f7 := (S.at_ 0 rfl).free 3
   have f8 := lk S 0 4 rfl rfl
   have f9 := (S.at_ 0 rfl).free 4
   have f10 := lk S 0 5 rfl rfl
   have f11 := (S.at_ 0 rfl).free 5
   have f12 := lk S 0 6 rfl rfl
   have f13 := (S.at_ 0 rfl).free 6
   have f14 := lk S 0 7 rfl rfl
   have f15 := (S.at_ 0 rfl).free 7
   have f16 := lk S 0 8 rfl rfl
   have f17 := (S.at_ 0 rfl).free 8
   replace S := S.put 0 rfl 0 (.int .i64 0)
   replace c := st c S (by omega)
   replace S := S.put 0 rfl 1 (.int .i64 0)
   replace c := st c S (by omega)
   replace S := S.put 0 rfl 2 (.int .i64 0)
   replace c := st c S (by omega)
   replace S := S.put 0 rfl 3 (.int .i64 0)
   replace c := st c S (by omega)
   replace S := S.put 0 rfl 4 (.int .i64 0)
   replace c := st c S (by omega)
   replace S := S.put 0 rfl 5 (.int .i64 0)
   replace c := st c S (by omega)
   replace S := S.put 0 rfl 6 (.int .i64 0)
   replace c := st c S (by omega)
   replace S := S.put 0 rfl 7 (.int .i64 0)
   replace c := st c S (by omega)
   replace S := S.put 0 rfl 8 (.int .i64 0)
   replace c := st c S (by omega)
   have r0 := jd ((S.at_ 0 rfl).cell 0)
   have r1 := jd ((S.at_ 0 rfl).cell 1)
   have r2 := jd ((S.at_ 0 rfl).cell 2)
   have r3 := jd ((S.at_ 0 rfl).cell 3)
   have r4 := jd ((S.at_ 0 rfl).cell 4)
   have r5 := jd ((S.at_ 0 rfl).cell 5)
   have r6 := jd ((S.at_ 0 rfl).cell 6)
   have r7 := jd ((S.at_ 0 rfl).cell 7)
   have r8 := jd ((S.at_ 0 rfl).cell 8)
   have CC := jd c
   clear S c
   go_wp2
   exact bodyPost_ret (v := .tuple #[.agg #[.int .i64 0, .int .i64 0, .int .i64 0, .int .i64 0, .int .i64 0, .int .i64 0, .int .i64 0, .int .i64 0, .int .i64 0], .bool false]) (by simp [results, Tryz.results138, go_sem, r0.out, r1.out, r2.out, r3.out, r4.out, r5.out, r6.out, r7.out, r8.out]) rfl ⟨by first | (rw [HV.out]; done) | (rw [HV.out]; rfl), CC.out⟩
  case pos =>
   by_cases q10 : y10 = y0
   case neg =>
    have e9 : (y9 != y0) = false := by simpa using q9
    have E9 : (y9 == y0) = true := by simpa using q9
    have e10 : (y10 != y0) = true := by simpa using q10
    have E10 : (y10 == y0) = false := by simpa using q10
    have HV := jd (show rowSlotM d = (ent0, false) by unfold rowSlotM; rw [twice_no (fun h9 => q10 (by rw [HY.out.1, HY.out.2.2]; exact h9.2.2))]; rfl)
    clear q9 q10
    go_enter Tryz.func138, Tryz.ntmps138
    go_wp2_with fail
    generalize w.alloc (.cells #[.int .i64 0, .int .i64 0, .int .i64 0, .int .i64 0, .int .i64 0, .int .i64 0, .int .i64 0, .int .i64 0, .int .i64 0] 87) = w1 at *
    have k0 := cu c h0 (show b < _ by omega)
    have k9 := cu c h9 (show b < _ by omega)
    have k10 := cu c h10 (show b < _ by omega)
    refine wp_region_cls (fun v => v.cell? ⟨b, off, none⟩ = some (.int .i64 y0) ∧ v.cell? ⟨b, off + 9, none⟩ = some (.int .i64 y9) ∧ v.cell? ⟨b, off + 10, none⟩ = some (.int .i64 y10)) (by kernel_rfl) (by kernel_rfl) (fun v hv => ⟨cq hv k0, cq hv k9, cq hv k10⟩) ?_
    intro CL HF HC
    repeat
     (first
        | go_big_quiet_skip
        | (go_big_quiet_want
           go_big_quiet_op
           first
            | go_big_quiet_on
            | (apply Exists.intro
               refine ⟨fun v hv => ?_, ?_⟩
               · obtain ⟨a0, a1, a2⟩ := HF v hv
                 first
                  | exact rfl
                  | (go_simp; exact rfl)
                  | (go_simp; exact ⟨rfl, hv⟩)
               go_big_quiet_on)))
    refine wpQuiet_nil ?_
    intro w9 b9
    replace c := c.trans (b9.mono c.size)
    replace S := S.keep b9
    clear b9 k0 k9 k10 h0 h9 h10
    have f0 := lk S 0 0 rfl rfl
    have f1 := (S.at_ 0 rfl).free 0
    have f2 := lk S 0 1 rfl rfl
    have f3 := (S.at_ 0 rfl).free 1
    have f4 := lk S 0 2 rfl rfl
    have f5 := (S.at_ 0 rfl).free 2
    have f6 := lk S 0 3 rfl rfl
    have f7 := (S.at_ 0 rfl).free 3
    have f8 := lk S 0 4 rfl rfl
    have f9 := (S.at_ 0 rfl).free 4
    have f10 := lk S 0 5 rfl rfl
    have f11 := (S.at_ 0 rfl).free 5
    have f12 := lk S 0 6 rfl rfl
    have f13 := (S.at_ 0 rfl).free 6
    have f14 := lk S 0 7 rfl rfl
    have f15 := (S.at_ 0 rfl).free 7
    have f16 := lk S 0 8 rfl rfl
    have f17 := (S.at_ 0 rfl).free 8
    replace S := S.put 0 rfl 0 (.int .i64 0)
    replace c := st c S (by omega)
    replace S := S.put 0 rfl 1 (.int .i64 0)
    replace c := st c S (by omega)
    replace S := S.put 0 rfl 2 (.int .i64 0)
    replace c := st c S (by omega)
    replace S := S.put 0 rfl 3 (.int .i64 0)
    replace c := st c S (by omega)
    replace S := S.put 0 rfl 4 (.int .i64 0)
    replace c := st c S (by omega)
    replace S := S.put 0 rfl 5 (.int .i64 0)
    replace c := st c S (by omega)
    replace S := S.put 0 rfl 6 (.int .i64 0)
    replace c := st c S (by omega)
    replace S := S.put 0 rfl 7 (.int .i64 0)
    replace c := st c S (by omega)
    replace S := S.put 0 rfl 8 (.int .i64 0)
    replace c := st c S (by omega)
    have r0 := jd ((S.at_ 0 rfl).cell 0)
    have r1 := jd ((S.at_ 0 rfl).cell 1)
    have r2 := jd ((S.at_ 0 rfl).cell 2)
    have r3 := jd ((S.at_ 0 rfl).cell 3)
    have r4 := jd ((S.at_ 0 rfl).cell 4)
    have r5 := jd ((S.at_ 0 rfl).cell 5)
    have r6 := jd ((S.at_ 0 rfl).cell 6)
    have r7 := jd ((S.at_ 0 rfl).cell 7)
    have r8 := jd ((S.at_ 0 rfl).cell 8)
    have CC := jd c
    clear S c
    go_wp2
    exact bodyPost_ret (v := .tuple #[.agg #[.int .i64 0, .int .i64 0, .int .i64 0, .int .i64 0, .int .i64 0, .int .i64 0, .int .i64 0, .int .i64 0, .int .i64 0], .bool false]) (by simp [results, Tryz.results138, go_sem, r0.out, r1.out, r2.out, r3.out, r4.out, r5.out, r6.out, r7.out, r8.out]) rfl ⟨by first | (rw [HV.out]; done) | (rw [HV.out]; rfl), CC.out⟩
   case pos =>
    have e9 : (y9 != y0) = false := by simpa using q9
    have E9 : (y9 == y0) = true := by simpa using q9
    have e10 : (y10 != y0) = false := by simpa using q10
    have E10 : (y10 == y0) = true := by simpa using q10
    have HV := jd (show rowSlotM d = rowEntM (d.take 9) by unfold rowSlotM; rw [if_pos ((twice_iff d 9).2 ⟨HL.out, by rw [← HY.out.1, ← HY.out.2.1]; exact q9, by rw [← HY.out.1, ← HY.out.2.2]; exact q10⟩)])
    have hc9 : ¬ cc < 9 := by omega
    have hc9' : (9 : Int) ≤ (cc : Int) := by omega
    clear q9 q10
    go_enter Tryz.func138, Tryz.ntmps138
    go_wp2_with fail
    generalize w.alloc (.cells #[.int .i64 0, .int .i64 0, .int .i64 0, .int .i64 0, .int .i64 0, .int .i64 0, .int .i64 0, .int .i64 0, .int .i64 0] 87) = w1 at *
    have k0 := cu c h0 (show b < _ by omega)
    have k9 := cu c h9 (show b < _ by omega)
    have k10 := cu c h10 (show b < _ by omega)
    refine wp_region_cls (fun v => v.cell? ⟨b, off, none⟩ = some (.int .i64 y0) ∧ v.cell? ⟨b, off + 9, none⟩ = some (.int .i64 y9) ∧ v.cell? ⟨b, off + 10, none⟩ = some (.int .i64 y10)) (by kernel_rfl) (by kernel_rfl) (fun v hv => ⟨cq hv k0, cq hv k9, cq hv k10⟩) ?_
    intro CL HF HC
    repeat
     (first
        | go_big_quiet_skip
        | (go_big_quiet_want
           go_big_quiet_op
           first
            | go_big_quiet_on
            | (apply Exists.intro
               refine ⟨fun v hv => ?_, ?_⟩
               · obtain ⟨a0, a1, a2⟩ := HF v hv
                 first
                  | exact rfl
                  | (go_simp; exact rfl)
                  | (go_simp; exact ⟨rfl, hv⟩)
               go_big_quiet_on)))
    refine wpQuiet_nil ?_
    intro w9 b9
    replace c := c.trans (b9.mono c.size)
    replace S := S.keep b9
    clear b9 k0 k9 k10 h0 h9 h10
    have hr9 := rd_take (HH.out.keep (c.mono hB)) (show 9 ≤ 11 by decide)
    go_wp2_with fail
    refine (sRowEnt_rd (some ⟨b, off, none⟩) 9 cc (d.take 9) _ (hr9.up (Nat.le_trans hB c.size))).mono ?_
    rintro e w2 ⟨rfl, b2⟩
    replace c := c.trans (b2.mono c.size)
    replace S := S.keep b2
    clear b2
    clear hr9
    rw [← HV.out]
    obtain ⟨z0, hz0⟩ : ∃ y, y = (rowSlotM d).1.idx := ⟨_, rfl⟩
    obtain ⟨z1, hz1⟩ : ∃ y, y = (rowSlotM d).1.tm := ⟨_, rfl⟩
    obtain ⟨z2, hz2⟩ : ∃ y, y = (rowSlotM d).1.cl := ⟨_, rfl⟩
    obtain ⟨z3, hz3⟩ : ∃ y, y = (rowSlotM d).1.sq := ⟨_, rfl⟩
    obtain ⟨z4, hz4⟩ : ∃ y, y = (rowSlotM d).1.kd := ⟨_, rfl⟩
    obtain ⟨z5, hz5⟩ : ∃ y, y = (rowSlotM d).1.oa := ⟨_, rfl⟩
    obtain ⟨z6, hz6⟩ : ∃ y, y = (rowSlotM d).1.ob := ⟨_, rfl⟩
    obtain ⟨z7, hz7⟩ : ∃ y, y = (rowSlotM d).1.oc := ⟨_, rfl⟩
    obtain ⟨z8, hz8⟩ : ∃ y, y = (rowSlotM d).1.od := ⟨_, rfl⟩
    obtain ⟨zz, hzz⟩ : ∃ y, y = (rowSlotM d).2 := ⟨_, rfl⟩
    rw [← hz0, ← hz1, ← hz2, ← hz3, ← hz4, ← hz5, ← hz6, ← hz7, ← hz8, ← hzz]
    have HZ := jd (And.intro hzz (And.intro hz0 (And.intro hz1 (And.intro hz2 (And.intro hz3 (And.intro hz4 (And.intro hz5 (And.intro hz6 (And.intro hz7 hz8)))))))))
    clear hzz hz0 hz1 hz2 hz3 hz4 hz5 hz6 hz7 hz8
    have f0 := lk S 0 0 rfl rfl
    have f1 := (S.at_ 0 rfl).free 0
    have f2 := lk S 0 1 rfl rfl
    have f3 := (S.at_ 0 rfl).free 1
    have f4 := lk S 0 2 rfl rfl
    have f5 := (S.at_ 0 rfl).free 2
    have f6 := lk S 0 3 rfl rfl
    have f7 := (S.at_ 0 rfl).free 3
    have f8 := lk S 0 4 rfl rfl
    have f9 := (S.at_ 0 rfl).free 4
    have f10 := lk S 0 5 rfl rfl
    have f11 := (S.at_ 0 rfl).free 5
    have f12 := lk S 0 6 rfl rfl
    have f13 := (S.at_ 0 rfl).free 6
    have f14 := lk S 0 7 rfl rfl
    have f15 := (S.at_ 0 rfl).free 7
    have f16 := lk S 0 8 rfl rfl
    have f17 := (S.at_ 0 rfl).free 8
    replace S := S.put 0 rfl 0 (.int .i64 z0)
    replace c := st c S (by omega)
    replace S := S.put 0 rfl 1 (.int .i64 z1)
    replace c := st c S (by omega)
    replace S := S.put 0 rfl 2 (.int .i64 z2)
    replace c := st c S (by omega)
    replace S := S.put 0 rfl 3 (.int .i64 z3)
    replace c := st c S (by omega)
    replace S := S.put 0 rfl 4 (.int .i64 z4)
    replace c := st c S (by omega)
    replace S := S.put 0 rfl 5 (.int .i64 z5)
    replace c := st c S (by omega)
    replace S := S.put 0 rfl 6 (.int .i64 z6)
    replace c := st c S (by omega)
    replace S := S.put 0 rfl 7 (.int .i64 z7)
    replace c := st c S (by omega)
    replace S := S.put 0 rfl 8 (.int .i64 z8)
    replace c := st c S (by omega)
    have r0 := jd ((S.at_ 0 rfl).cell 0)
    have r1 := jd ((S.at_ 0 rfl).cell 1)
    have r2 := jd ((S.at_ 0 rfl).cell 2)
    have r3 := jd ((S.at_ 0 rfl).cell 3)
    have r4 := jd ((S.at_ 0 rfl).cell 4)
    have r5 := jd ((S.at_ 0 rfl).cell 5)
    have r6 := jd ((S.at_ 0 rfl).cell 6)
    have r7 := jd ((S.at_ 0 rfl).cell 7)
    have r8 := jd ((S.at_ 0 rfl).cell 8)
    have CC := jd c
    clear S c
    go_wp2
    exact bodyPost_ret (v := .tuple #[.agg #[.int .i64 z0, .int .i64 z1, .int .i64 z2, .int .i64 z3, .int .i64 z4, .int .i64 z5, .int .i64 z6, .int .i64 z7, .int .i64 z8], .bool zz]) (by simp [results, Tryz.results138, go_sem, r0.out, r1.out, r2.out, r3.out, r4.out, r5.out, r6.out, r7.out, r8.out]) rfl ⟨by obtain ⟨a, b, c, d, e, f, g, h, i, j⟩ := HZ.out; rw [a, b, c, d, e, f, g, h, i, j], CC.out⟩
end Go.Proofs.YtmjifhjhialcbaaGreat

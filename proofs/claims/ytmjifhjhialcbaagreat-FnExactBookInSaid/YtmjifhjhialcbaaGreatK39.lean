/- Parts of my texts: BookI3. -/
import Derived.Test.YtmjifhjhialcbaaGreatK37
import Derived.Test.YtmjifhjhialcbaaGreatK38
namespace Go.Proofs.YtmjifhjhialcbaaGreat
set_option maxRecDepth 100000
set_option linter.unusedVariables false
open Go.RowKit
theorem bookB_mk' (x0 x1 : Int) (l : List EntM) : bookB ⟨x0, x1, l⟩ = true ↔ (0 ≤ x0 ∧ x0 ≤ 2000) ∧ (0 ≤ x1 ∧ x1 ≤ 1000000) ∧ (x0 ≠ 0 ∨ x1 = 0) ∧ l.length ≤ 20 ∧ entsB l = true ∧ headB ⟨x0, x1, l⟩ = true := bookB_iff _
set_option maxHeartbeats 3200000 in
theorem iBaseOf_any (x0 x1 : Int) (A : Option Addr) (n cc : Nat) (w : World) :
    Calls Tryz.prog 67 #[.agg #[.int .i64 x0, .int .i64 x1, .slice A n cc]] w fun e w' => e = .returned (.agg #[.int .i64 x0, .int .i64 x1, .int .i64 0, .int .i64 0, .int .i64 0, .int .i64 0, .int .i64 0, .int .i64 0, .int .i64 0]) ∧ Below w.heap.size w w' := by
 have C := jd (((Below.refl w.heap.size w).alloc (Nat.le_refl _) (.cells #[.int .i64 x0, .int .i64 x1, .slice A n cc] 47)).alloc (by simp) (.cells #[.int .i64 x0, .int .i64 x1, .int .i64 0, .int .i64 0, .int .i64 0, .int .i64 0, .int .i64 0, .int .i64 0, .int .i64 0] 87))
 go_enter Tryz.func67, Tryz.ntmps67
 go_wp2
 refine bodyPost_ret (v := .agg #[.int .i64 x0, .int .i64 x1, .int .i64 0, .int .i64 0, .int .i64 0, .int .i64 0, .int .i64 0, .int .i64 0, .int .i64 0]) (by simp [results, Tryz.results67, go_sem]) rfl ⟨rfl, ?_⟩
 exact C.out
set_option maxHeartbeats 6400000 in
theorem iEndOf_any (x0 x1 : Int) (A : Option Addr) (n cc B : Nat) (l : List EntM) (w : World) (h : Rd w B [entD l] [.slice A n cc]) (hB : B ≤ w.heap.size) (hs : entSz l ≤ 1048577) :
    Calls Tryz.prog 62 #[.agg #[.int .i64 x0, .int .i64 x1, .slice A n cc]] w fun e w' => e = .returned (.agg #[.int .i64 (endM ⟨x0, x1, l⟩).idx, .int .i64 (endM ⟨x0, x1, l⟩).tm, .int .i64 (endM ⟨x0, x1, l⟩).cl, .int .i64 (endM ⟨x0, x1, l⟩).sq, .int .i64 (endM ⟨x0, x1, l⟩).kd, .int .i64 (endM ⟨x0, x1, l⟩).oa, .int .i64 (endM ⟨x0, x1, l⟩).ob, .int .i64 (endM ⟨x0, x1, l⟩).oc, .int .i64 (endM ⟨x0, x1, l⟩).od]) ∧ Below w.heap.size w w' := by
 have HH := jd h
 obtain ⟨_, _, _, e, hl, _, hcm, hel⟩ := h.ents
 injection e with e1 e2 e3
 subst e1 e2 e3
 have hn : n ≤ 1048577 := by unfold entSz at hs; omega
 have HL := jd hl
 by_cases h0 : n = 0
 case pos =>
  subst h0
  have HV := jd (show endM ⟨x0, x1, l⟩ = ⟨x0, x1, 0, 0, 0, 0, 0, 0, 0⟩ by unfold endM; rw [if_pos (show l.length = 0 from hl)])
  clear hel hcm hl h
  have S := Sep.nil w w.heap.size
  have c := Below.refl w.heap.size w
  replace S := S.boxAt c.size (w.heap.size) rfl #[.int .i64 x0, .int .i64 x1, .slice A 0 cc] 47
  replace c := al c S
  replace S := S.boxAt c.size (w.heap.size + 1) (by simp) #[.int .i64 0, .int .i64 0, .int .i64 0, .int .i64 0, .int .i64 0, .int .i64 0, .int .i64 0, .int .i64 0, .int .i64 0] 87
  replace c := al c S
  go_enter Tryz.func62, Tryz.ntmps62
  have f0 := lk S 1 0 rfl rfl
  have f1 := lk S 1 1 rfl rfl
  have f2 := lk S 1 2 rfl rfl
  go_wp2_with fail
  generalize (w.alloc (.cells #[.int .i64 x0, .int .i64 x1, .slice A 0 cc] 47)).alloc (.cells #[.int .i64 0, .int .i64 0, .int .i64 0, .int .i64 0, .int .i64 0, .int .i64 0, .int .i64 0, .int .i64 0, .int .i64 0] 87) = w1 at *
  refine (iBaseOf_any x0 x1 A 0 cc _).mono ?_
  rintro e w2 ⟨rfl, b2⟩
  replace c := c.trans (b2.mono c.size)
  replace S := S.keep b2
  clear b2 f0 f1 f2
  have f3 := lk S 0 0 rfl rfl
  have f4 := (S.at_ 0 rfl).free 0
  have f5 := lk S 0 1 rfl rfl
  have f6 := (S.at_ 0 rfl).free 1
  have f7 := lk S 0 2 rfl rfl
  have f8 := (S.at_ 0 rfl).free 2
  have f9 := lk S 0 3 rfl rfl
  have f10 := (S.at_ 0 rfl).free 3
  have f11 := lk S 0 4 rfl rfl
  have f12 := (S.at_ 0 rfl).free 4
  have f13 := lk S 0 5 rfl rfl
  have f14 := (S.at_ 0 rfl).free 5
  have f15 := lk S 0 6 rfl rfl
  have f16 := (S.at_ 0 rfl).free 6
  have f17 := lk S 0 7 rfl rfl
  have f18 := (S.at_ 0 rfl).free 7
  have f19 := lk S 0 8 rfl rfl
  have f20 := (S.at_ 0 rfl).free 8
  replace S := S.put 0 rfl 0 (.int .i64 x0)
  replace c := st c S (by omega)
  replace S := S.put 0 rfl 1 (.int .i64 x1)
  replace c := st c S (by omega)
  replace S := S.put 0 rfl 2 (.int .i64 0)
  replace c := st c S (by omega)
  replace S := S.put 0 rfl 3 (.int .i64 0)
  replace c := st c S (by omega)
  replace S := S.put 0 rfl 4 (.int .i64 0)
  replace c := st c S (by omega)
  replace S := S.put 0 rfl 5 (.int .i64 0)
  replace c := st c S (by omega)
  replace S := S.put 0 rfl 6 (.int .i64 0)
  replace c := st c S (by omega)
  replace S := S.put 0 rfl 7 (.int .i64 0)
  replace c := st c S (by omega)
  replace S := S.put 0 rfl 8 (.int .i64 0)
  replace c := st c S (by omega)
  have r0 := jd ((S.at_ 0 rfl).cell 0)
  have r1 := jd ((S.at_ 0 rfl).cell 1)
  have r2 := jd ((S.at_ 0 rfl).cell 2)
  have r3 := jd ((S.at_ 0 rfl).cell 3)
  have r4 := jd ((S.at_ 0 rfl).cell 4)
  have r5 := jd ((S.at_ 0 rfl).cell 5)
  have r6 := jd ((S.at_ 0 rfl).cell 6)
  have r7 := jd ((S.at_ 0 rfl).cell 7)
  have r8 := jd ((S.at_ 0 rfl).cell 8)
  have CC := jd c
  clear S c
  go_wp2
  exact bodyPost_ret (v := .agg #[.int .i64 x0, .int .i64 x1, .int .i64 0, .int .i64 0, .int .i64 0, .int .i64 0, .int .i64 0, .int .i64 0, .int .i64 0]) (by simp [results, Tryz.results62, go_sem, r0.out, r1.out, r2.out, r3.out, r4.out, r5.out, r6.out, r7.out, r8.out]) rfl ⟨by rw [HV.out], CC.out⟩
 case neg =>
  obtain ⟨b, off, rfl, hb, hc⟩ := hel (by omega)
  obtain ⟨k, hk⟩ : ∃ k, n = k + 1 := ⟨n - 1, by omega⟩
  have hkl : k < l.length := by omega
  obtain ⟨hq0, hq1, hq2, hq3, hq4, hq5, hq6, hq7, hq8⟩ := hc k hkl
  obtain ⟨z0, hz0⟩ : ∃ y, y = l[k].idx := ⟨_, rfl⟩
  rw [← hz0] at hq0
  obtain ⟨z1, hz1⟩ : ∃ y, y = l[k].tm := ⟨_, rfl⟩
  rw [← hz1] at hq1
  obtain ⟨z2, hz2⟩ : ∃ y, y = l[k].cl := ⟨_, rfl⟩
  rw [← hz2] at hq2
  obtain ⟨z3, hz3⟩ : ∃ y, y = l[k].sq := ⟨_, rfl⟩
  rw [← hz3] at hq3
  obtain ⟨z4, hz4⟩ : ∃ y, y = l[k].kd := ⟨_, rfl⟩
  rw [← hz4] at hq4
  obtain ⟨z5, hz5⟩ : ∃ y, y = l[k].oa := ⟨_, rfl⟩
  rw [← hz5] at hq5
  obtain ⟨z6, hz6⟩ : ∃ y, y = l[k].ob := ⟨_, rfl⟩
  rw [← hz6] at hq6
  obtain ⟨z7, hz7⟩ : ∃ y, y = l[k].oc := ⟨_, rfl⟩
  rw [← hz7] at hq7
  obtain ⟨z8, hz8⟩ : ∃ y, y = l[k].od := ⟨_, rfl⟩
  rw [← hz8] at hq8
  have hmk : l[k] = ⟨z0, z1, z2, z3, z4, z5, z6, z7, z8⟩ := by rw [hz0, hz1, hz2, hz3, hz4, hz5, hz6, hz7, hz8]
  have HV := jd (show endM ⟨x0, x1, l⟩ = ⟨z0, z1, z2, z3, z4, z5, z6, z7, z8⟩ by unfold endM; rw [if_neg (show ¬ l.length = 0 by omega), show (⟨x0, x1, l⟩ : BookM).ents.length - 1 = k by show l.length - 1 = k; omega, egetD hkl, hmk])
  have hw1 : IntKind.i64.wrap ((n : Int) - 1) = (k : Int) := by rw [IntKind.wrap_i64]; omega
  have hw2 : IntKind.i64.wrap (k : Int) = (k : Int) := by rw [IntKind.wrap_i64]; omega
  have e0 : decide ((n : Int) = 0) = false := decide_eq_false (by omega)
  have e1 : ((n : Int) == 0) = false := by simp; omega
  have hnz : ¬ n = 0 := h0
  have j0 : (0 : Int) ≤ (k : Int) := by omega
  have j1 : (k : Int) < (n : Int) := by omega
  clear h hel hc hcm hl h0 hkl hmk hk HL HH hz0 hz1 hz2 hz3 hz4 hz5 hz6 hz7 hz8
  have S := Sep.nil w w.heap.size
  have c := Below.refl w.heap.size w
  replace S := S.boxAt c.size (w.heap.size) rfl #[.int .i64 x0, .int .i64 x1, .slice (some ⟨b, off, none⟩) n cc] 47
  replace c := al c S
  replace S := S.boxAt c.size (w.heap.size + 1) (by simp) #[.int .i64 0, .int .i64 0, .int .i64 0, .int .i64 0, .int .i64 0, .int .i64 0, .int .i64 0, .int .i64 0, .int .i64 0] 87
  replace c := al c S
  go_enter Tryz.func62, Tryz.ntmps62
  have f0 := lk S 1 0 rfl rfl
  have f1 := lk S 1 1 rfl rfl
  have f2 := lk S 1 2 rfl rfl
  have k0 := cu c hq0 (show b < _ by omega)
  have k1 := cu c hq1 (show b < _ by omega)
  have k2 := cu c hq2 (show b < _ by omega)
  have k3 := cu c hq3 (show b < _ by omega)
  have k4 := cu c hq4 (show b < _ by omega)
  have k5 := cu c hq5 (show b < _ by omega)
  have k6 := cu c hq6 (show b < _ by omega)
  have k7 := cu c hq7 (show b < _ by omega)
  have k8 := cu c hq8 (show b < _ by omega)
  have C := jd (((Below.refl w.heap.size w).alloc (Nat.le_refl _) (.cells #[.int .i64 x0, .int .i64 x1, .slice (some ⟨b, off, none⟩) n cc] 47)).alloc (by simp) (.cells #[.int .i64 z0, .int .i64 z1, .int .i64 z2, .int .i64 z3, .int .i64 z4, .int .i64 z5, .int .i64 z6, .int .i64 z7, .int .i64 z8] 87))
  clear S c
  go_wp2
  refine bodyPost_ret (v := .agg #[.int .i64 z0, .int .i64 z1, .int .i64 z2, .int .i64 z3, .int .i64 z4, .int .i64 z5, .int .i64 z6, .int .i64 z7, .int .i64 z8]) (by simp [results, Tryz.results62, go_sem]) rfl ⟨by rw [HV.out], ?_⟩
  exact C.out
set_option maxHeartbeats 6400000 in
theorem iTakes_any (x0 x1 : Int) (A : Option Addr) (n cc B : Nat) (l : List EntM) (e0 e1 e2 e3 e4 e5 e6 e7 e8 : Int) (w : World) (h : Rd w B [entD l] [.slice A n cc]) (hB : B ≤ w.heap.size) (hs : entSz l ≤ 1048577) (hy : 0 ≤ (endM ⟨x0, x1, l⟩).idx ∧ (endM ⟨x0, x1, l⟩).idx ≤ 1000000) :
    Calls Tryz.prog 247 #[.agg #[.int .i64 x0, .int .i64 x1, .slice A n cc], .agg #[.int .i64 e0, .int .i64 e1, .int .i64 e2, .int .i64 e3, .int .i64 e4, .int .i64 e5, .int .i64 e6, .int .i64 e7, .int .i64 e8]] w fun e w' => e = .returned (.bool (takeB ⟨x0, x1, l⟩ ⟨e0, e1, e2, e3, e4, e5, e6, e7, e8⟩)) ∧ Below w.heap.size w w' := by
 have HH := jd h
 obtain ⟨_, _, _, e, hl, _, hcm, hel⟩ := h.ents
 injection e with e1 e2 e3
 subst e1 e2 e3
 have hn : n ≤ 1048577 := by unfold entSz at hs; omega
 have HL := jd hl
 clear hel hcm h
 have HT := jd (show takeB ⟨x0, x1, l⟩ ⟨e0, e1, e2, e3, e4, e5, e6, e7, e8⟩ = (decide (n < 20) && (entB ⟨e0, e1, e2, e3, e4, e5, e6, e7, e8⟩ && (decide (e0 = (endM ⟨x0, x1, l⟩).idx + 1) && decide ((endM ⟨x0, x1, l⟩).tm ≤ e1)))) by unfold takeB; rw [show (⟨x0, x1, l⟩ : BookM).ents.length = n from hl])
 have HD := jd hy
 clear hy hl
 obtain ⟨y0, hy0⟩ : ∃ q, q = (endM ⟨x0, x1, l⟩).idx := ⟨_, rfl⟩
 obtain ⟨y1, hy1⟩ : ∃ q, q = (endM ⟨x0, x1, l⟩).tm := ⟨_, rfl⟩
 obtain ⟨y2, hy2⟩ : ∃ q, q = (endM ⟨x0, x1, l⟩).cl := ⟨_, rfl⟩
 obtain ⟨y3, hy3⟩ : ∃ q, q = (endM ⟨x0, x1, l⟩).sq := ⟨_, rfl⟩
 obtain ⟨y4, hy4⟩ : ∃ q, q = (endM ⟨x0, x1, l⟩).kd := ⟨_, rfl⟩
 obtain ⟨y5, hy5⟩ : ∃ q, q = (endM ⟨x0, x1, l⟩).oa := ⟨_, rfl⟩
 obtain ⟨y6, hy6⟩ : ∃ q, q = (endM ⟨x0, x1, l⟩).ob := ⟨_, rfl⟩
 obtain ⟨y7, hy7⟩ : ∃ q, q = (endM ⟨x0, x1, l⟩).oc := ⟨_, rfl⟩
 obtain ⟨y8, hy8⟩ : ∃ q, q = (endM ⟨x0, x1, l⟩).od := ⟨_, rfl⟩
 have HE : ∀ (v : World), B ≤ v.heap.size → Rd v B [entD l] [.slice A n cc] → Calls Tryz.prog 62 #[.agg #[.int .i64 x0, .int .i64 x1, .slice A n cc]] v fun e w' => e = .returned (.agg #[.int .i64 y0, .int .i64 y1, .int .i64 y2, .int .i64 y3, .int .i64 y4, .int .i64 y5, .int .i64 y6, .int .i64 y7, .int .i64 y8]) ∧ Below v.heap.size v w' := fun v h1 h2 => by
  have := iEndOf_any x0 x1 A n cc B l v h2 h1 hs
  rw [← hy0, ← hy1, ← hy2, ← hy3, ← hy4, ← hy5, ← hy6, ← hy7, ← hy8] at this
  exact this
 rw [← hy0] at HD
 rw [← hy0, ← hy1] at HT
 clear hy0 hy1 hy2 hy3 hy4 hy5 hy6 hy7 hy8
 have S := Sep.nil w w.heap.size
 have c := Below.refl w.heap.size w
 replace S := S.boxAt c.size (w.heap.size) rfl #[.int .i64 x0, .int .i64 x1, .slice A n cc] 47
 replace c := al c S
 replace S := S.boxAt c.size (w.heap.size + 1) (by simp) #[.int .i64 e0, .int .i64 e1, .int .i64 e2, .int .i64 e3, .int .i64 e4, .int .i64 e5, .int .i64 e6, .int .i64 e7, .int .i64 e8] 87
 replace c := al c S
 go_enter Tryz.func247, Tryz.ntmps247
 have f0 := lk S 1 0 rfl rfl
 have f1 := lk S 1 1 rfl rfl
 have f2 := lk S 1 2 rfl rfl
 have f3 := lk S 0 0 rfl rfl
 have f4 := lk S 0 1 rfl rfl
 have f5 := lk S 0 2 rfl rfl
 have f6 := lk S 0 3 rfl rfl
 have f7 := lk S 0 4 rfl rfl
 have f8 := lk S 0 5 rfl rfl
 have f9 := lk S 0 6 rfl rfl
 have f10 := lk S 0 7 rfl rfl
 have f11 := lk S 0 8 rfl rfl
 go_wp2_with fail
 generalize (w.alloc (.cells #[.int .i64 x0, .int .i64 x1, .slice A n cc] 47)).alloc (.cells #[.int .i64 e0, .int .i64 e1, .int .i64 e2, .int .i64 e3, .int .i64 e4, .int .i64 e5, .int .i64 e6, .int .i64 e7, .int .i64 e8] 87) = w1 at *
 have hrd := HH.out.keep (c.mono hB)
 have hbs := Nat.le_trans hB c.size
 by_cases q0 : n < 20
 case neg =>
  have d0 : decide ((n : Int) < 20) = false := decide_eq_false (by omega)
  have HV := jd (show takeB ⟨x0, x1, l⟩ ⟨e0, e1, e2, e3, e4, e5, e6, e7, e8⟩ = false by rw [HT.out, decide_eq_false q0, Bool.false_and])
  refine wp_region_cls (fun v => v.cell? ⟨w.heap.size, 0, none⟩ = some (.int .i64 x0) ∧ v.cell? ⟨w.heap.size, 1, none⟩ = some (.int .i64 x1) ∧ v.cell? ⟨w.heap.size, 2, none⟩ = some (.slice A n cc) ∧ v.cell? ⟨w.heap.size + 1, 0, none⟩ = some (.int .i64 e0) ∧ v.cell? ⟨w.heap.size + 1, 1, none⟩ = some (.int .i64 e1) ∧ v.cell? ⟨w.heap.size + 1, 2, none⟩ = some (.int .i64 e2) ∧ v.cell? ⟨w.heap.size + 1, 3, none⟩ = some (.int .i64 e3) ∧ v.cell? ⟨w.heap.size + 1, 4, none⟩ = some (.int .i64 e4) ∧ v.cell? ⟨w.heap.size + 1, 5, none⟩ = some (.int .i64 e5) ∧ v.cell? ⟨w.heap.size + 1, 6, none⟩ = some (.int .i64 e6) ∧ v.cell? ⟨w.heap.size + 1, 7, none⟩ = some (.int .i64 e7) ∧ v.cell? ⟨w.heap.size + 1, 8, none⟩ = some (.int .i64 e8) ∧ Rd v B [entD l] [.slice A n cc] ∧ B ≤ v.heap.size) (by kernel_rfl) (by kernel_rfl) (fun v hv => ⟨cq hv f0, cq hv f1, cq hv f2, cq hv f3, cq hv f4, cq hv f5, cq hv f6, cq hv f7, cq hv f8, cq hv f9, cq hv f10, cq hv f11, hrd.keep (hv.mono hbs), Nat.le_trans hbs hv.size⟩) ?_
  intro CL HF HC
  repeat
   (first
      | go_big_quiet_skip
      | (go_big_quiet_want
         go_big_quiet_op
         first
          | go_big_quiet_on
          | (apply Exists.intro
             refine ⟨fun v hv => ?_, ?_⟩
             · obtain ⟨a0, a1, a2, a3, a4, a5, a6, a7, a8, a9, a10, a11, a12, a13⟩ := HF v hv
               first
                | exact rfl
                | (go_simp; exact rfl)
                | (go_simp; exact ⟨rfl, hv⟩)
             go_big_quiet_on)))
  refine wpQuiet_nil ?_
  intro w9 b9
  have CC := jd (c.trans (b9.mono c.size))
  clear S c b9 hrd hbs f0 f1 f2 f3 f4 f5 f6 f7 f8 f9 f10 f11
  go_wp2
  go_ret
  exact ⟨ret_bool HV.out.symm, CC.out⟩
 have d0 : decide ((n : Int) < 20) = true := decide_eq_true (by omega)
 cases p1 : entB ⟨e0, e1, e2, e3, e4, e5, e6, e7, e8⟩
 case false =>
  have HV := jd (show takeB ⟨x0, x1, l⟩ ⟨e0, e1, e2, e3, e4, e5, e6, e7, e8⟩ = false by rw [HT.out, p1, Bool.false_and, Bool.and_false])
  refine wp_region_cls (fun v => v.cell? ⟨w.heap.size, 0, none⟩ = some (.int .i64 x0) ∧ v.cell? ⟨w.heap.size, 1, none⟩ = some (.int .i64 x1) ∧ v.cell? ⟨w.heap.size, 2, none⟩ = some (.slice A n cc) ∧ v.cell? ⟨w.heap.size + 1, 0, none⟩ = some (.int .i64 e0) ∧ v.cell? ⟨w.heap.size + 1, 1, none⟩ = some (.int .i64 e1) ∧ v.cell? ⟨w.heap.size + 1, 2, none⟩ = some (.int .i64 e2) ∧ v.cell? ⟨w.heap.size + 1, 3, none⟩ = some (.int .i64 e3) ∧ v.cell? ⟨w.heap.size + 1, 4, none⟩ = some (.int .i64 e4) ∧ v.cell? ⟨w.heap.size + 1, 5, none⟩ = some (.int .i64 e5) ∧ v.cell? ⟨w.heap.size + 1, 6, none⟩ = some (.int .i64 e6) ∧ v.cell? ⟨w.heap.size + 1, 7, none⟩ = some (.int .i64 e7) ∧ v.cell? ⟨w.heap.size + 1, 8, none⟩ = some (.int .i64 e8) ∧ Rd v B [entD l] [.slice A n cc] ∧ B ≤ v.heap.size) (by kernel_rfl) (by kernel_rfl) (fun v hv => ⟨cq hv f0, cq hv f1, cq hv f2, cq hv f3, cq hv f4, cq hv f5, cq hv f6, cq hv f7, cq hv f8, cq hv f9, cq hv f10, cq hv f11, hrd.keep (hv.mono hbs), Nat.le_trans hbs hv.size⟩) ?_
  intro CL HF HC
  repeat
   (first
      | go_big_quiet_skip
      | (go_big_quiet_want
         go_big_quiet_op
         first
          | go_big_quiet_on
          | (apply Exists.intro
             refine ⟨fun v hv => ?_, ?_⟩
             · obtain ⟨a0, a1, a2, a3, a4, a5, a6, a7, a8, a9, a10, a11, a12, a13⟩ := HF v hv
               first
                | (go_at_call 118; exact Calls.cls HC hv (iEntryOk_any e0 e1 e2 e3 e4 e5 e6 e7 e8 v) (congrArg Value.bool p1))
                | exact rfl
                | (go_simp; exact rfl)
                | (go_simp; exact ⟨rfl, hv⟩)
             go_big_quiet_on)))
  refine wpQuiet_nil ?_
  intro w9 b9
  have CC := jd (c.trans (b9.mono c.size))
  clear S c b9 hrd hbs f0 f1 f2 f3 f4 f5 f6 f7 f8 f9 f10 f11
  go_wp2
  go_ret
  exact ⟨ret_bool HV.out.symm, CC.out⟩
 case true =>
  cases p2 : (decide (e0 = y0 + 1) && decide (y1 ≤ e1))
  case false =>
   have HV := jd (show takeB ⟨x0, x1, l⟩ ⟨e0, e1, e2, e3, e4, e5, e6, e7, e8⟩ = false by rw [HT.out, p1, p2, decide_eq_true q0]; rfl)
   refine wp_region_cls (fun v => v.cell? ⟨w.heap.size, 0, none⟩ = some (.int .i64 x0) ∧ v.cell? ⟨w.heap.size, 1, none⟩ = some (.int .i64 x1) ∧ v.cell? ⟨w.heap.size, 2, none⟩ = some (.slice A n cc) ∧ v.cell? ⟨w.heap.size + 1, 0, none⟩ = some (.int .i64 e0) ∧ v.cell? ⟨w.heap.size + 1, 1, none⟩ = some (.int .i64 e1) ∧ v.cell? ⟨w.heap.size + 1, 2, none⟩ = some (.int .i64 e2) ∧ v.cell? ⟨w.heap.size + 1, 3, none⟩ = some (.int .i64 e3) ∧ v.cell? ⟨w.heap.size + 1, 4, none⟩ = some (.int .i64 e4) ∧ v.cell? ⟨w.heap.size + 1, 5, none⟩ = some (.int .i64 e5) ∧ v.cell? ⟨w.heap.size + 1, 6, none⟩ = some (.int .i64 e6) ∧ v.cell? ⟨w.heap.size + 1, 7, none⟩ = some (.int .i64 e7) ∧ v.cell? ⟨w.heap.size + 1, 8, none⟩ = some (.int .i64 e8) ∧ Rd v B [entD l] [.slice A n cc] ∧ B ≤ v.heap.size) (by kernel_rfl) (by kernel_rfl) (fun v hv => ⟨cq hv f0, cq hv f1, cq hv f2, cq hv f3, cq hv f4, cq hv f5, cq hv f6, cq hv f7, cq hv f8, cq hv f9, cq hv f10, cq hv f11, hrd.keep (hv.mono hbs), Nat.le_trans hbs hv.size⟩) ?_
   intro CL HF HC
   repeat
    (first
       | go_big_quiet_skip
       | (go_big_quiet_want
          go_big_quiet_op
          first
           | go_big_quiet_on
           | (apply Exists.intro
              refine ⟨fun v hv => ?_, ?_⟩
              · obtain ⟨a0, a1, a2, a3, a4, a5, a6, a7, a8, a9, a10, a11, a12, a13⟩ := HF v hv
                first
                 | (go_at_call 118; exact Calls.cls HC hv (iEntryOk_any e0 e1 e2 e3 e4 e5 e6 e7 e8 v) (congrArg Value.bool p1))
                 | (go_at_call 62; exact Calls.cls HC hv (HE v a13 a12) rfl)
                 | (go_at_call 66; exact Calls.cls HC hv (iFollows_any e0 e1 e2 e3 e4 e5 e6 e7 e8 y0 y1 y2 y3 y4 y5 y6 y7 y8 HD.out v) (congrArg Value.bool p2))
                 | exact rfl
                 | (go_simp; exact rfl)
                 | (go_simp; exact ⟨rfl, hv⟩)
              go_big_quiet_on)))
   refine wpQuiet_nil ?_
   intro w9 b9
   have CC := jd (c.trans (b9.mono c.size))
   clear S c b9 hrd hbs f0 f1 f2 f3 f4 f5 f6 f7 f8 f9 f10 f11
   go_wp2
   go_ret
   exact ⟨ret_bool HV.out.symm, CC.out⟩
  case true =>
   have HV := jd (show takeB ⟨x0, x1, l⟩ ⟨e0, e1, e2, e3, e4, e5, e6, e7, e8⟩ = true by rw [HT.out, p1, p2, decide_eq_true q0]; rfl)
   refine wp_region_cls (fun v => v.cell? ⟨w.heap.size, 0, none⟩ = some (.int .i64 x0) ∧ v.cell? ⟨w.heap.size, 1, none⟩ = some (.int .i64 x1) ∧ v.cell? ⟨w.heap.size, 2, none⟩ = some (.slice A n cc) ∧ v.cell? ⟨w.heap.size + 1, 0, none⟩ = some (.int .i64 e0) ∧ v.cell? ⟨w.heap.size + 1, 1, none⟩ = some (.int .i64 e1) ∧ v.cell? ⟨w.heap.size + 1, 2, none⟩ = some (.int .i64 e2) ∧ v.cell? ⟨w.heap.size + 1, 3, none⟩ = some (.int .i64 e3) ∧ v.cell? ⟨w.heap.size + 1, 4, none⟩ = some (.int .i64 e4) ∧ v.cell? ⟨w.heap.size + 1, 5, none⟩ = some (.int .i64 e5) ∧ v.cell? ⟨w.heap.size + 1, 6, none⟩ = some (.int .i64 e6) ∧ v.cell? ⟨w.heap.size + 1, 7, none⟩ = some (.int .i64 e7) ∧ v.cell? ⟨w.heap.size + 1, 8, none⟩ = some (.int .i64 e8) ∧ Rd v B [entD l] [.slice A n cc] ∧ B ≤ v.heap.size) (by kernel_rfl) (by kernel_rfl) (fun v hv => ⟨cq hv f0, cq hv f1, cq hv f2, cq hv f3, cq hv f4, cq hv f5, cq hv f6, cq hv f7, cq hv f8, cq hv f9, cq hv f10, cq hv f11, hrd.keep (hv.mono hbs), Nat.le_trans hbs hv.size⟩) ?_
   intro CL HF HC
   repeat
    (first
       | go_big_quiet_skip
       | (go_big_quiet_want
          go_big_quiet_op
          first
           | go_big_quiet_on
           | (apply Exists.intro
              refine ⟨fun v hv => ?_, ?_⟩
              · obtain ⟨a0, a1, a2, a3, a4, a5, a6, a7, a8, a9, a10, a11, a12, a13⟩ := HF v hv
                first
                 | (go_at_call 118; exact Calls.cls HC hv (iEntryOk_any e0 e1 e2 e3 e4 e5 e6 e7 e8 v) (congrArg Value.bool p1))
                 | (go_at_call 62; exact Calls.cls HC hv (HE v a13 a12) rfl)
                 | (go_at_call 66; exact Calls.cls HC hv (iFollows_any e0 e1 e2 e3 e4 e5 e6 e7 e8 y0 y1 y2 y3 y4 y5 y6 y7 y8 HD.out v) (congrArg Value.bool p2))
                 | exact rfl
                 | (go_simp; exact rfl)
                 | (go_simp; exact ⟨rfl, hv⟩)
              go_big_quiet_on)))
   refine wpQuiet_nil ?_
   intro w9 b9
   have CC := jd (c.trans (b9.mono c.size))
   clear S c b9 hrd hbs f0 f1 f2 f3 f4 f5 f6 f7 f8 f9 f10 f11
   go_wp2
   go_ret
   exact ⟨ret_bool HV.out.symm, CC.out⟩
end Go.Proofs.YtmjifhjhialcbaaGreat

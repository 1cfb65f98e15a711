/- Parts of my texts: MarkI3 MarkI4. -/
import Derived.Test.YtmjifhjhialcbaaGreatK26
import Derived.Test.YtmjifhjhialcbaaGreatK28
namespace Go.Proofs.YtmjifhjhialcbaaGreat
set_option maxRecDepth 100000
set_option linter.unusedVariables false
open Go.RowKit
def freshT (l : List MarkM) (q s : Int) : Bool := askB q && (inB s 1 2000 && decide ((findM l q).ms < s))
def takesT (l : List MarkM) (e : EntM) : Bool := entB e && (freshT l e.cl e.sq && decide (maxTo l l.length < e.idx))
def Solo (l : List MarkM) : Prop := l.Pairwise (fun a b => a.mc ≠ b.mc)
set_option maxHeartbeats 3200000 in
theorem iFresh_tab (b : Nat) (l : List MarkM) (q s : Int) (w : World) (h : Tab w b l) (hd : Solo l) :
    Calls Tryz.prog 261 #[.map (some b), .int .i64 q, .int .i64 s] w fun e w' => e = .returned (.bool (freshT l q s)) ∧ Below w.heap.size w w' := by
 have HO := iTabOf_any b l q w h hd
 clear h
 by_cases p1 : 2 ≤ q ∧ q ≤ 5
 case neg =>
  have HV := jd (show freshT l q s = false by unfold freshT; rw [show askB q = false from Bool.eq_false_iff.2 (fun h9 => p1 ((inB_iff _ _ _).1 h9)), Bool.false_and])
  clear HO hd
  go_enter Tryz.func261, Tryz.ntmps261
  go_wp2_with (first | (go_at_call 126; refine (i_AskerOk_no q _ p1).mono ?_; rintro e w' ⟨rfl, rfl⟩))
  go_ret
  exact ⟨ret_bool HV.out.symm, Below.refl _ _⟩
 case pos =>
 by_cases p2 : 1 ≤ s ∧ s ≤ 2000
 case neg =>
  have HV := jd (show freshT l q s = false by unfold freshT; rw [show inB s 1 2000 = false from Bool.eq_false_iff.2 (fun h9 => p2 ((inB_iff _ _ _).1 h9)), Bool.false_and, Bool.and_false])
  clear HO hd
  go_enter Tryz.func261, Tryz.ntmps261
  go_wp2_with (first | (go_at_call 126; refine (i_AskerOk_yes q _ p1).mono ?_; rintro e w' ⟨rfl, rfl⟩) | (go_at_call 127; refine (i_isSeq_no s _ p2).mono ?_; rintro e w' ⟨rfl, rfl⟩))
  go_ret
  exact ⟨ret_bool HV.out.symm, Below.refl _ _⟩
 case pos =>
  have HV := jd (show freshT l q s = decide ((findM l q).ms < s) by unfold freshT; rw [show askB q = true from (inB_iff _ _ _).2 p1, (inB_iff _ _ _).2 p2]; rfl)
  clear hd
  obtain ⟨y0, y1, y2, hy⟩ : ∃ y0 y1 y2, findM l q = ⟨y0, y1, y2⟩ := ⟨_, _, _, rfl⟩
  rw [hy] at HV HO
  clear hy
  have hfd : ∀ w9 : World, (Instr.field 113 (.agg #[.int .i64 y0, .int .i64 y1, .int .i64 y2]) 1).run Tryz.prog w9 = .ok (.int .i64 y1) w9 := fun _ => by kernel_rfl
  go_enter Tryz.func261, Tryz.ntmps261
  go_wp2_with (first | (go_at_call 126; refine (i_AskerOk_yes q _ p1).mono ?_; rintro e w' ⟨rfl, rfl⟩) | (go_at_call 127; refine (i_isSeq_yes s _ p2).mono ?_; rintro e w' ⟨rfl, rfl⟩) | (go_at_call 167; refine HO.mono ?_; rintro e w2 ⟨rfl, b2⟩))
  go_ret
  exact ⟨by first | (rw [HV.out]; done) | (rw [HV.out]; rfl), b2⟩
set_option maxHeartbeats 6400000 in
theorem iTakes_tab (b : Nat) (l : List MarkM) (e0 e1 e2 e3 e4 e5 e6 e7 e8 : Int) (w : World) (h : Tab w b l) (hd : Solo l) :
    Calls Tryz.prog 254 #[.map (some b), .agg #[.int .i64 e0, .int .i64 e1, .int .i64 e2, .int .i64 e3, .int .i64 e4, .int .i64 e5, .int .i64 e6, .int .i64 e7, .int .i64 e8]] w fun e w' => e = .returned (.bool (takesT l ⟨e0, e1, e2, e3, e4, e5, e6, e7, e8⟩)) ∧ Below w.heap.size w w' := by
 have hbl := h.lt
 have c := (Below.refl w.heap.size w).alloc (Nat.le_refl _) (.cells #[.int .i64 e0, .int .i64 e1, .int .i64 e2, .int .i64 e3, .int .i64 e4, .int .i64 e5, .int .i64 e6, .int .i64 e7, .int .i64 e8] 87)
 have H := jd (h.keep ((Below.refl w.heap.size w).alloc (Nat.le_refl _) (.cells #[.int .i64 e0, .int .i64 e1, .int .i64 e2, .int .i64 e3, .int .i64 e4, .int .i64 e5, .int .i64 e6, .int .i64 e7, .int .i64 e8] 87)) hbl)
 have k := Blk.new w #[.int .i64 e0, .int .i64 e1, .int .i64 e2, .int .i64 e3, .int .i64 e4, .int .i64 e5, .int .i64 e6, .int .i64 e7, .int .i64 e8] 87
 have HD := jd hd
 have HT := jd (show takesT l ⟨e0, e1, e2, e3, e4, e5, e6, e7, e8⟩ = (entB ⟨e0, e1, e2, e3, e4, e5, e6, e7, e8⟩ && (freshT l e2 e3 && decide (maxTo l l.length < e0))) from rfl)
 clear h hd
 have f0 : (w.alloc (.cells #[.int .i64 e0, .int .i64 e1, .int .i64 e2, .int .i64 e3, .int .i64 e4, .int .i64 e5, .int .i64 e6, .int .i64 e7, .int .i64 e8] 87)).cell? ⟨w.heap.size, 0, none⟩ = some (.int .i64 e0) := k.cell 0
 have f2 : (w.alloc (.cells #[.int .i64 e0, .int .i64 e1, .int .i64 e2, .int .i64 e3, .int .i64 e4, .int .i64 e5, .int .i64 e6, .int .i64 e7, .int .i64 e8] 87)).cell? ⟨w.heap.size, 2, none⟩ = some (.int .i64 e2) := k.cell 2
 have f3 : (w.alloc (.cells #[.int .i64 e0, .int .i64 e1, .int .i64 e2, .int .i64 e3, .int .i64 e4, .int .i64 e5, .int .i64 e6, .int .i64 e7, .int .i64 e8] 87)).cell? ⟨w.heap.size, 3, none⟩ = some (.int .i64 e3) := k.cell 3
 have f1 : (w.alloc (.cells #[.int .i64 e0, .int .i64 e1, .int .i64 e2, .int .i64 e3, .int .i64 e4, .int .i64 e5, .int .i64 e6, .int .i64 e7, .int .i64 e8] 87)).cell? ⟨w.heap.size, 1, none⟩ = some (.int .i64 e1) := k.cell 1
 have f4 : (w.alloc (.cells #[.int .i64 e0, .int .i64 e1, .int .i64 e2, .int .i64 e3, .int .i64 e4, .int .i64 e5, .int .i64 e6, .int .i64 e7, .int .i64 e8] 87)).cell? ⟨w.heap.size, 4, none⟩ = some (.int .i64 e4) := k.cell 4
 have f5 : (w.alloc (.cells #[.int .i64 e0, .int .i64 e1, .int .i64 e2, .int .i64 e3, .int .i64 e4, .int .i64 e5, .int .i64 e6, .int .i64 e7, .int .i64 e8] 87)).cell? ⟨w.heap.size, 5, none⟩ = some (.int .i64 e5) := k.cell 5
 have f6 : (w.alloc (.cells #[.int .i64 e0, .int .i64 e1, .int .i64 e2, .int .i64 e3, .int .i64 e4, .int .i64 e5, .int .i64 e6, .int .i64 e7, .int .i64 e8] 87)).cell? ⟨w.heap.size, 6, none⟩ = some (.int .i64 e6) := k.cell 6
 have f7 : (w.alloc (.cells #[.int .i64 e0, .int .i64 e1, .int .i64 e2, .int .i64 e3, .int .i64 e4, .int .i64 e5, .int .i64 e6, .int .i64 e7, .int .i64 e8] 87)).cell? ⟨w.heap.size, 7, none⟩ = some (.int .i64 e7) := k.cell 7
 have f8 : (w.alloc (.cells #[.int .i64 e0, .int .i64 e1, .int .i64 e2, .int .i64 e3, .int .i64 e4, .int .i64 e5, .int .i64 e6, .int .i64 e7, .int .i64 e8] 87)).cell? ⟨w.heap.size, 8, none⟩ = some (.int .i64 e8) := k.cell 8
 clear k
 go_enter Tryz.func254, Tryz.ntmps254
 go_wp2_with fail
 generalize w.alloc (.cells #[.int .i64 e0, .int .i64 e1, .int .i64 e2, .int .i64 e3, .int .i64 e4, .int .i64 e5, .int .i64 e6, .int .i64 e7, .int .i64 e8] 87) = w1 at *
 have hb1 := jd (H.out.lt)
 cases p1 : entB ⟨e0, e1, e2, e3, e4, e5, e6, e7, e8⟩
 case false =>
  have HV := jd (show takesT l ⟨e0, e1, e2, e3, e4, e5, e6, e7, e8⟩ = false by rw [HT.out, p1, Bool.false_and])
  refine wp_region_cls (fun v => v.cell? ⟨w.heap.size, 0, none⟩ = some (.int .i64 e0) ∧ v.cell? ⟨w.heap.size, 1, none⟩ = some (.int .i64 e1) ∧ v.cell? ⟨w.heap.size, 2, none⟩ = some (.int .i64 e2) ∧ v.cell? ⟨w.heap.size, 3, none⟩ = some (.int .i64 e3) ∧ v.cell? ⟨w.heap.size, 4, none⟩ = some (.int .i64 e4) ∧ v.cell? ⟨w.heap.size, 5, none⟩ = some (.int .i64 e5) ∧ v.cell? ⟨w.heap.size, 6, none⟩ = some (.int .i64 e6) ∧ v.cell? ⟨w.heap.size, 7, none⟩ = some (.int .i64 e7) ∧ v.cell? ⟨w.heap.size, 8, none⟩ = some (.int .i64 e8) ∧ Tab v b l) (by kernel_rfl) (by kernel_rfl) (fun v hv => ⟨cq hv f0, cq hv f1, cq hv f2, cq hv f3, cq hv f4, cq hv f5, cq hv f6, cq hv f7, cq hv f8, H.out.keep hv hb1.out⟩) ?_
  intro CL HF HC
  repeat
   (first
      | go_big_quiet_skip
      | (go_big_quiet_want
         go_big_quiet_op
         first
          | go_big_quiet_on
          | (apply Exists.intro
             refine ⟨fun v hv => ?_, ?_⟩
             · obtain ⟨a0, a1, a2, a3, a4, a5, a6, a7, a8, a9⟩ := HF v hv
               first
                | (go_at_call 118; exact Calls.cls HC hv (iEntryOk_any e0 e1 e2 e3 e4 e5 e6 e7 e8 v) (congrArg Value.bool p1))
                | exact rfl
                | (go_simp; exact rfl)
                | (go_simp; exact ⟨rfl, hv⟩)
             go_big_quiet_on)))
  refine wpQuiet_nil ?_
  intro w9 b9
  have CC := jd (c.trans (b9.mono c.size))
  clear c b9 f0 f1 f2 f3 f4 f5 f6 f7 f8
  go_wp2
  go_ret
  exact ⟨ret_bool (by first | exact HV.out.symm | (rw [HV.out]; rw [p4] at e9; exact e9)), CC.out⟩
 case true =>
 cases p2 : freshT l e2 e3
 case false =>
  have HV := jd (show takesT l ⟨e0, e1, e2, e3, e4, e5, e6, e7, e8⟩ = false by rw [HT.out, p2, Bool.false_and, Bool.and_false])
  refine wp_region_cls (fun v => v.cell? ⟨w.heap.size, 0, none⟩ = some (.int .i64 e0) ∧ v.cell? ⟨w.heap.size, 1, none⟩ = some (.int .i64 e1) ∧ v.cell? ⟨w.heap.size, 2, none⟩ = some (.int .i64 e2) ∧ v.cell? ⟨w.heap.size, 3, none⟩ = some (.int .i64 e3) ∧ v.cell? ⟨w.heap.size, 4, none⟩ = some (.int .i64 e4) ∧ v.cell? ⟨w.heap.size, 5, none⟩ = some (.int .i64 e5) ∧ v.cell? ⟨w.heap.size, 6, none⟩ = some (.int .i64 e6) ∧ v.cell? ⟨w.heap.size, 7, none⟩ = some (.int .i64 e7) ∧ v.cell? ⟨w.heap.size, 8, none⟩ = some (.int .i64 e8) ∧ Tab v b l) (by kernel_rfl) (by kernel_rfl) (fun v hv => ⟨cq hv f0, cq hv f1, cq hv f2, cq hv f3, cq hv f4, cq hv f5, cq hv f6, cq hv f7, cq hv f8, H.out.keep hv hb1.out⟩) ?_
  intro CL HF HC
  repeat
   (first
      | go_big_quiet_skip
      | (go_big_quiet_want
         go_big_quiet_op
         first
          | go_big_quiet_on
          | (apply Exists.intro
             refine ⟨fun v hv => ?_, ?_⟩
             · obtain ⟨a0, a1, a2, a3, a4, a5, a6, a7, a8, a9⟩ := HF v hv
               first
                | (go_at_call 118; exact Calls.cls HC hv (iEntryOk_any e0 e1 e2 e3 e4 e5 e6 e7 e8 v) (congrArg Value.bool p1))
                | (go_at_call 261; exact Calls.cls HC hv (iFresh_tab b l e2 e3 v a9 HD.out) (congrArg Value.bool p2))
                | exact rfl
                | (go_simp; exact rfl)
                | (go_simp; exact ⟨rfl, hv⟩)
             go_big_quiet_on)))
  refine wpQuiet_nil ?_
  intro w9 b9
  have CC := jd (c.trans (b9.mono c.size))
  clear c b9 f0 f1 f2 f3 f4 f5 f6 f7 f8
  go_wp2
  go_ret
  exact ⟨ret_bool (by first | exact HV.out.symm | (rw [HV.out]; rw [p4] at e9; exact e9)), CC.out⟩
 case true =>
 obtain ⟨y, p4⟩ : ∃ y, y = maxTo l l.length := ⟨_, rfl⟩
 rw [← p4] at HT
 by_cases p3 : y < e0
 case neg =>
  have e9 : decide (y < e0) = false := decide_eq_false p3
  have HV := jd (show takesT l ⟨e0, e1, e2, e3, e4, e5, e6, e7, e8⟩ = false by rw [HT.out, e9, Bool.and_false, Bool.and_false])
  refine wp_region_cls (fun v => v.cell? ⟨w.heap.size, 0, none⟩ = some (.int .i64 e0) ∧ v.cell? ⟨w.heap.size, 1, none⟩ = some (.int .i64 e1) ∧ v.cell? ⟨w.heap.size, 2, none⟩ = some (.int .i64 e2) ∧ v.cell? ⟨w.heap.size, 3, none⟩ = some (.int .i64 e3) ∧ v.cell? ⟨w.heap.size, 4, none⟩ = some (.int .i64 e4) ∧ v.cell? ⟨w.heap.size, 5, none⟩ = some (.int .i64 e5) ∧ v.cell? ⟨w.heap.size, 6, none⟩ = some (.int .i64 e6) ∧ v.cell? ⟨w.heap.size, 7, none⟩ = some (.int .i64 e7) ∧ v.cell? ⟨w.heap.size, 8, none⟩ = some (.int .i64 e8) ∧ Tab v b l) (by kernel_rfl) (by kernel_rfl) (fun v hv => ⟨cq hv f0, cq hv f1, cq hv f2, cq hv f3, cq hv f4, cq hv f5, cq hv f6, cq hv f7, cq hv f8, H.out.keep hv hb1.out⟩) ?_
  intro CL HF HC
  repeat
   (first
      | go_big_quiet_skip
      | (go_big_quiet_want
         go_big_quiet_op
         first
          | go_big_quiet_on
          | (apply Exists.intro
             refine ⟨fun v hv => ?_, ?_⟩
             · obtain ⟨a0, a1, a2, a3, a4, a5, a6, a7, a8, a9⟩ := HF v hv
               first
                | (go_at_call 118; exact Calls.cls HC hv (iEntryOk_any e0 e1 e2 e3 e4 e5 e6 e7 e8 v) (congrArg Value.bool p1))
                | (go_at_call 261; exact Calls.cls HC hv (iFresh_tab b l e2 e3 v a9 HD.out) (congrArg Value.bool p2))
                | (go_at_call 130; exact Calls.cls HC hv (iLast_any b l v a9) (congrArg (Value.int .i64) p4.symm))
                | exact rfl
                | (go_simp; exact rfl)
                | (go_simp; exact ⟨rfl, hv⟩)
             go_big_quiet_on)))
  refine wpQuiet_nil ?_
  intro w9 b9
  have CC := jd (c.trans (b9.mono c.size))
  clear c b9 f0 f1 f2 f3 f4 f5 f6 f7 f8
  go_wp2
  go_ret
  exact ⟨ret_bool (by first | exact HV.out.symm | (rw [HV.out]; rw [p4] at e9; exact e9)), CC.out⟩
 case pos =>
  have e9 : decide (y < e0) = true := decide_eq_true p3
  have HV := jd (show takesT l ⟨e0, e1, e2, e3, e4, e5, e6, e7, e8⟩ = true by rw [HT.out, e9, p1, p2]; rfl)
  refine wp_region_cls (fun v => v.cell? ⟨w.heap.size, 0, none⟩ = some (.int .i64 e0) ∧ v.cell? ⟨w.heap.size, 1, none⟩ = some (.int .i64 e1) ∧ v.cell? ⟨w.heap.size, 2, none⟩ = some (.int .i64 e2) ∧ v.cell? ⟨w.heap.size, 3, none⟩ = some (.int .i64 e3) ∧ v.cell? ⟨w.heap.size, 4, none⟩ = some (.int .i64 e4) ∧ v.cell? ⟨w.heap.size, 5, none⟩ = some (.int .i64 e5) ∧ v.cell? ⟨w.heap.size, 6, none⟩ = some (.int .i64 e6) ∧ v.cell? ⟨w.heap.size, 7, none⟩ = some (.int .i64 e7) ∧ v.cell? ⟨w.heap.size, 8, none⟩ = some (.int .i64 e8) ∧ Tab v b l) (by kernel_rfl) (by kernel_rfl) (fun v hv => ⟨cq hv f0, cq hv f1, cq hv f2, cq hv f3, cq hv f4, cq hv f5, cq hv f6, cq hv f7, cq hv f8, H.out.keep hv hb1.out⟩) ?_
  intro CL HF HC
  repeat
   (first
      | go_big_quiet_skip
      | (go_big_quiet_want
         go_big_quiet_op
         first
          | go_big_quiet_on
          | (apply Exists.intro
             refine ⟨fun v hv => ?_, ?_⟩
             · obtain ⟨a0, a1, a2, a3, a4, a5, a6, a7, a8, a9⟩ := HF v hv
               first
                | (go_at_call 118; exact Calls.cls HC hv (iEntryOk_any e0 e1 e2 e3 e4 e5 e6 e7 e8 v) (congrArg Value.bool p1))
                | (go_at_call 261; exact Calls.cls HC hv (iFresh_tab b l e2 e3 v a9 HD.out) (congrArg Value.bool p2))
                | (go_at_call 130; exact Calls.cls HC hv (iLast_any b l v a9) (congrArg (Value.int .i64) p4.symm))
                | exact rfl
                | (go_simp; exact rfl)
                | (go_simp; exact ⟨rfl, hv⟩)
             go_big_quiet_on)))
  refine wpQuiet_nil ?_
  intro w9 b9
  have CC := jd (c.trans (b9.mono c.size))
  clear c b9 f0 f1 f2 f3 f4 f5 f6 f7 f8
  go_wp2
  go_ret
  exact ⟨ret_bool (by first | exact HV.out.symm | (rw [HV.out]; rw [p4] at e9; exact e9)), CC.out⟩
def recT (l : List MarkM) (e : EntM) : List MarkM := putT (delT l (findM l e.cl).mi) ⟨e.cl, e.sq, e.idx⟩
theorem w64_in {x : Int} (h : 0 ≤ x ∧ x ≤ 2000) : w64 x := by
 unfold w64
 simp only [Lit.wf, Bool.and_eq_true, decide_eq_true_eq]
 have h1 : IntKind.i64.min ≤ 0 := by decide
 have h2 : (2000 : Int) ≤ IntKind.i64.max := by decide
 omega
theorem findM_w64 {l : List MarkM} (h : ∀ m ∈ l, w64 m.mi) (q : Int) : w64 (findM l q).mi := by
 unfold findM
 cases hf : l.find? fun x => x.mc == q with
 | none => exact w64_in ⟨Int.le_refl 0, by decide⟩
 | some m => exact h m (List.mem_of_find?_eq_some hf)
set_option maxHeartbeats 6400000 in
theorem iRecord_tab (b n0 : Nat) (l : List MarkM) (e0 e1 e2 e3 e4 e5 e6 e7 e8 : Int) (w : World) (h : Tab w b l) (hd : Solo l) (hi : w64 e0) (hn : l.length < maxLen) (h0 : n0 ≤ b) (h1 : n0 ≤ w.heap.size) :
    Calls Tryz.prog 255 #[.map (some b), .agg #[.int .i64 e0, .int .i64 e1, .int .i64 e2, .int .i64 e3, .int .i64 e4, .int .i64 e5, .int .i64 e6, .int .i64 e7, .int .i64 e8]] w fun e w' => e = .returned (.tuple #[]) ∧ Tab w' b (recT l ⟨e0, e1, e2, e3, e4, e5, e6, e7, e8⟩) ∧ Below n0 w w' := by
 have hbl := h.lt
 have c := (Below.refl w.heap.size w).alloc (Nat.le_refl _) (.cells #[.int .i64 e0, .int .i64 e1, .int .i64 e2, .int .i64 e3, .int .i64 e4, .int .i64 e5, .int .i64 e6, .int .i64 e7, .int .i64 e8] 87)
 have H := jd (h.keep ((Below.refl w.heap.size w).alloc (Nat.le_refl _) (.cells #[.int .i64 e0, .int .i64 e1, .int .i64 e2, .int .i64 e3, .int .i64 e4, .int .i64 e5, .int .i64 e6, .int .i64 e7, .int .i64 e8] 87)) hbl)
 have k := Blk.new w #[.int .i64 e0, .int .i64 e1, .int .i64 e2, .int .i64 e3, .int .i64 e4, .int .i64 e5, .int .i64 e6, .int .i64 e7, .int .i64 e8] 87
 have HD := jd hd
 have HI := jd hi
 have HW := jd (findM_w64 h.fit e2)
 have HN := jd hn
 have HR := jd (show recT l ⟨e0, e1, e2, e3, e4, e5, e6, e7, e8⟩ = putT (delT l (findM l e2).mi) ⟨e2, e3, e0⟩ from rfl)
 obtain ⟨y0, y1, y2, hy⟩ : ∃ y0 y1 y2, findM l e2 = ⟨y0, y1, y2⟩ := ⟨_, _, _, rfl⟩
 rw [hy] at HW HR
 have HY := jd hy
 have HN2 := jd (show (delT l y2).length < maxLen from Nat.lt_of_le_of_lt (List.length_filter_le _ _) hn)
 clear h hd hi hn hy
 have hfd : ∀ w9 : World, (Instr.field 113 (.agg #[.int .i64 y0, .int .i64 y1, .int .i64 y2]) 2).run Tryz.prog w9 = .ok (.int .i64 y2) w9 := fun _ => by kernel_rfl
 have K := jd k
 have C := jd c
 have f2 : (w.alloc (.cells #[.int .i64 e0, .int .i64 e1, .int .i64 e2, .int .i64 e3, .int .i64 e4, .int .i64 e5, .int .i64 e6, .int .i64 e7, .int .i64 e8] 87)).cell? ⟨w.heap.size, 2, none⟩ = some (.int .i64 e2) := k.cell 2
 clear k c
 go_enter Tryz.func255, Tryz.ntmps255
 go_wp2_with fail
 generalize w.alloc (.cells #[.int .i64 e0, .int .i64 e1, .int .i64 e2, .int .i64 e3, .int .i64 e4, .int .i64 e5, .int .i64 e6, .int .i64 e7, .int .i64 e8] 87) = w1 at *
 have hc := iTabOf_any b l e2 w1 H.out HD.out
 rw [HY.out] at hc
 refine hc.mono ?_
 rintro e w2 ⟨rfl, b2⟩
 have T2 := jd (H.out.keep b2 H.out.lt)
 have K2 := jd (K.out.keep b2 K.out.lt)
 have C2 := jd (C.out.trans (b2.mono C.out.size))
 have hb2 := jd H.out.lt
 clear hc b2 f2 H K C
 go_wp2_with (first
  | (at_delete
     refine wpList_del_tab rfl (.tmp 4) (.tmp 9) 156 113 (by rfl) Tryz.underlying156 (by rfl) T2.out y2 (by rfl) HW.out ?_
     intro w3 t3 g3
     have T3 := jd t3
     have K3 := jd (show Blk w3 w.heap.size #[.int .i64 e0, .int .i64 e1, .int .i64 e2, .int .i64 e3, .int .i64 e4, .int .i64 e5, .int .i64 e6, .int .i64 e7, .int .i64 e8] 87 from (g3.block _ K2.out.lt (by intro e; injection e with e; omega)).trans K2.out)
     have C3 := jd ((C2.out.mono h1).grown g3 (Nat.le_trans h1 C2.out.size) (fun k e => by cases e; exact h0))
     have q0 : w3.cell? ⟨w.heap.size, 0, none⟩ = some (.int .i64 e0) := K3.out.cell 0
     have q2 : w3.cell? ⟨w.heap.size, 2, none⟩ = some (.int .i64 e2) := K3.out.cell 2
     have q3 : w3.cell? ⟨w.heap.size, 3, none⟩ = some (.int .i64 e3) := K3.out.cell 3
     clear t3 g3 T2 K2 C2)
  | (at_mapUpdate
     refine wpList_put_tab rfl (.tmp 10) (.tmp 12) (.tmp 19) 156 113 (by rfl) Tryz.underlying156 (by rfl) T3.out HN2.out ⟨e2, e3, e0⟩ (by rfl) (by rfl) HI.out ?_
     intro w4 t4 g4
     have C4 := jd (C3.out.grown g4 (Nat.le_trans h1 C3.out.size) (fun k e => by cases e; exact h0))
     have T4 := jd t4
     clear t4 g4 q0 q2 q3))
 go_end0
 exact ⟨rfl, by rw [HR.out]; exact T4.out, C4.out⟩
theorem takes_may {l : List MarkM} (h : seenB l = true) (e : EntM) : takesT l e = mayB l e := by
 unfold takesT freshT mayB freshB markOf lastS
 rw [h, if_pos rfl, if_pos rfl, Bool.true_and]
theorem seen_solo {l : List MarkM} (h : seenB l = true) : Solo l := (seen_pairs h).2.1.imp fun {a b} hab => by omega
theorem seen_apart {l : List MarkM} (h : seenB l = true) : Apart l := (seen_pairs h).2.2
theorem solo_eq {l : List MarkM} (h : Solo l) {m m' : MarkM} (hm : m ∈ l) (hm' : m' ∈ l) (he : m.mc = m'.mc) : m = m' := by
 have h1 := findM_mem h hm
 rw [he, findM_mem h hm'] at h1
 exact h1.symm
theorem apart_eq {l : List MarkM} (h : Apart l) {m m' : MarkM} (hm : m ∈ l) (hm' : m' ∈ l) (he : m.mi = m'.mi) : m = m' := by
 have h1 := tabF_at h hm
 rw [he, tabF_at h hm'] at h1
 obtain ⟨m0, m1, m2⟩ := m
 obtain ⟨n0, n1, n2⟩ := m'
 unfold mrkV at h1
 simp at h1
 obtain ⟨rfl, rfl, rfl⟩ := h1
 rfl
theorem del_client {l : List MarkM} (h : seenB l = true) (c : Int) : delT l (findM l c).mi = l.filter fun m => decide (m.mc ≠ c) := by
 unfold delT
 refine List.filter_congr fun m hm => ?_
 rw [decide_eq_decide]
 by_cases e : ∃ m0 ∈ l, m0.mc = c
 · obtain ⟨m0, hm0, rfl⟩ := e
   rw [findM_mem (seen_solo h) hm0]
   constructor
   · intro h1 h2
     exact h1 (congrArg MarkM.mi (solo_eq (seen_solo h) hm hm0 h2))
   · intro h1 h2
     exact h1 (congrArg MarkM.mc (apart_eq (seen_apart h) hm hm0 h2))
 · rw [findM_no fun m0 h0 h1 => e ⟨m0, h0, h1⟩]
   have h1 := (markB_iff m).1 ((seen_pairs h).1 m hm)
   constructor
   · intro _ h2
     exact e ⟨m, hm, h2⟩
   · intro _
     show m.mi ≠ 0
     omega
theorem rec_perm {l : List MarkM} {e : EntM} (h : seenB l = true) (hm : mayB l e = true) : (recT l e).Perm (insM l ⟨e.cl, e.sq, e.idx⟩) := by
 unfold recT putT
 rw [del_client h]
 have h1 : delT (l.filter fun m => decide (m.mc ≠ e.cl)) e.idx = l.filter fun m => decide (m.mc ≠ e.cl) := by
  unfold delT
  rw [List.filter_eq_self]
  intro m h2
  have h3 := lastS_ge h (List.mem_filter.1 h2).1
  have h4 := ((mayB_iff l e).1 hm).2.2
  rw [decide_eq_true_eq]
  omega
 show (delT (l.filter fun m => decide (m.mc ≠ e.cl)) e.idx ++ [(⟨e.cl, e.sq, e.idx⟩ : MarkM)]).Perm _
 rw [h1]
 unfold insM
 have h2 := List.filter_append_perm (fun m : MarkM => decide (m.mc < e.cl)) (l.filter fun m => decide (m.mc ≠ e.cl))
 rw [List.filter_filter, List.filter_filter] at h2
 have h3 : (l.filter fun m => decide (m.mc < e.cl) && decide (m.mc ≠ e.cl)) = l.filter fun m => decide (m.mc < e.cl) := by
  refine List.filter_congr fun m _ => ?_
  rw [Bool.eq_iff_iff]
  simp only [Bool.and_eq_true, decide_eq_true_eq]
  omega
 have h4 : (l.filter fun m => (!decide (m.mc < e.cl)) && decide (m.mc ≠ e.cl)) = l.filter fun m => decide (e.cl < m.mc) := by
  refine List.filter_congr fun m _ => ?_
  rw [Bool.eq_iff_iff]
  simp only [Bool.and_eq_true, Bool.not_eq_true', decide_eq_true_eq, decide_eq_false_iff_not]
  omega
 rw [h3, h4] at h2
 exact ((List.Perm.append_right _ h2.symm).trans (by rw [List.append_assoc]; exact List.Perm.append_left _ (List.perm_append_singleton _ _)))
theorem may_idx {l : List MarkM} {e : EntM} (hm : mayB l e = true) : w64 e.idx := by
 have h1 := ((mayB_iff l e).1 hm).1
 have h2 := (entB_iff e).1 h1
 exact w64_in (by omega)
set_option maxHeartbeats 6400000 in
theorem iRecordAll_tab (b n0 : Nat) (l : List MarkM) (A : Option Addr) (n cc B : Nat) (es : List EntM) (w : World) (h : Tab w b l) (hok : seenB l = true) (hr : Rd w B [entD es] [.slice A n cc]) (hn : n ≤ 1048577) (h0 : n0 ≤ b) (h1 : n0 ≤ w.heap.size) (hB : B ≤ n0) :
    Calls Tryz.prog 248 #[.map (some b), .slice A n cc] w fun e w' => e = .returned (.bool (overB l es)) ∧ (overB l es = true → Tab w' b (overM l es)) ∧ Below n0 w w' := by
 have HH := jd h
 obtain ⟨_, _, _, e, hl, _, _, hel⟩ := hr.ents
 injection e with e1 e2 e3
 subst e1 e2 e3
 have HL := jd hl
 have HO := jd hok
 have H1 := jd h1
 have H0 := jd h0
 clear h hl hr hok
 go_enter Tryz.func248, Tryz.ntmps248
 go_wp2
 go_loopw [9] (fun i wr => ∃ j : Nat, j ≤ n ∧ i = .int .i64 (j : Int) ∧ (∀ q, q < j → overAt l es q = true) ∧ Tab wr b (overM l (es.take j)) ∧ Below n0 w wr) (fun i _ => n - (intOf i).toNat)
 case atStart => exact ⟨0, Nat.zero_le _, rfl, fun q hq => absurd hq (by omega), HH.out, Below.refl _ _⟩
 case round =>
  obtain ⟨j, hj, rfl, hall, T, c⟩ := hrel
  have HALL := jd hall
  have HT := jd T
  have CC := jd c
  have HS := jd (over_ok HO.out j (by have := HL.out; omega) hall)
  clear hall T
  by_cases hlt : j < n
  case neg =>
   obtain rfl : j = n := by omega
   have HV := jd (show overB l es = true from (overB_iff l es).2 fun q hq => HALL.out q (by have := HL.out; omega))
   have HT2 := jd (show Tab wr b (overM l es) by have := HT.out; rwa [show es.take j = es from by rw [← HL.out, List.take_length]] at this)
   clear hel c
   go_wp2
   go_ret
   exact ⟨ret_bool HV.out.symm, fun _ => HT2.out, CC.out⟩
  case pos =>
   have hjl : j < es.length := by have := HL.out; omega
   obtain ⟨bb, off, rfl, hb, hc⟩ := hel (by omega)
   obtain ⟨hq0, hq1, hq2, hq3, hq4, hq5, hq6, hq7, hq8⟩ := hc j hjl
   have k0 := cu c hq0 (show bb < _ by omega)
   obtain ⟨z0, hz0⟩ : ∃ y, y = es[j].idx := ⟨_, rfl⟩
   rw [← hz0] at k0
   have k1 := cu c hq1 (show bb < _ by omega)
   obtain ⟨z1, hz1⟩ : ∃ y, y = es[j].tm := ⟨_, rfl⟩
   rw [← hz1] at k1
   have k2 := cu c hq2 (show bb < _ by omega)
   obtain ⟨z2, hz2⟩ : ∃ y, y = es[j].cl := ⟨_, rfl⟩
   rw [← hz2] at k2
   have k3 := cu c hq3 (show bb < _ by omega)
   obtain ⟨z3, hz3⟩ : ∃ y, y = es[j].sq := ⟨_, rfl⟩
   rw [← hz3] at k3
   have k4 := cu c hq4 (show bb < _ by omega)
   obtain ⟨z4, hz4⟩ : ∃ y, y = es[j].kd := ⟨_, rfl⟩
   rw [← hz4] at k4
   have k5 := cu c hq5 (show bb < _ by omega)
   obtain ⟨z5, hz5⟩ : ∃ y, y = es[j].oa := ⟨_, rfl⟩
   rw [← hz5] at k5
   have k6 := cu c hq6 (show bb < _ by omega)
   obtain ⟨z6, hz6⟩ : ∃ y, y = es[j].ob := ⟨_, rfl⟩
   rw [← hz6] at k6
   have k7 := cu c hq7 (show bb < _ by omega)
   obtain ⟨z7, hz7⟩ : ∃ y, y = es[j].oc := ⟨_, rfl⟩
   rw [← hz7] at k7
   have k8 := cu c hq8 (show bb < _ by omega)
   obtain ⟨z8, hz8⟩ : ∃ y, y = es[j].od := ⟨_, rfl⟩
   rw [← hz8] at k8
   have hmk : es[j] = ⟨z0, z1, z2, z3, z4, z5, z6, z7, z8⟩ := by rw [hz0, hz1, hz2, hz3, hz4, hz5, hz6, hz7, hz8]
   have HG := jd (show es.getD j ent0 = ⟨z0, z1, z2, z3, z4, z5, z6, z7, z8⟩ by rw [egetD hjl, hmk])
   have HM := jd (show overM l (es.take (j + 1)) = insM (overM l (es.take j)) ⟨z2, z3, z0⟩ by rw [overM_step hjl, hmk])
   have HJ := jd hjl
   have HA := jd (show overAt l es j = mayB (overM l (es.take j)) ⟨z0, z1, z2, z3, z4, z5, z6, z7, z8⟩ by unfold overAt; rw [HG.out])
   clear hmk hc hel hz0 hq0 hz1 hq1 hz2 hq2 hz3 hq3 hz4 hq4 hz5 hq5 hz6 hq6 hz7 hq7 hz8 hq8
   obtain ⟨L, hL⟩ : ∃ L, L = overM l (es.take j) := ⟨_, rfl⟩
   rw [← hL] at HT HS HM HA
   have HLL := jd hL
   clear hL
   have T1 := jd (HT.out.keep ((Below.refl wr.heap.size wr).alloc (Nat.le_refl _) (.cells #[.int .i64 z0, .int .i64 z1, .int .i64 z2, .int .i64 z3, .int .i64 z4, .int .i64 z5, .int .i64 z6, .int .i64 z7, .int .i64 z8] 87)) HT.out.lt)
   have C1 := jd (CC.out.alloc (Nat.le_trans H1.out CC.out.size) (.cells #[.int .i64 z0, .int .i64 z1, .int .i64 z2, .int .i64 z3, .int .i64 z4, .int .i64 z5, .int .i64 z6, .int .i64 z7, .int .i64 z8] 87))
   have kk := Blk.new wr #[.int .i64 z0, .int .i64 z1, .int .i64 z2, .int .i64 z3, .int .i64 z4, .int .i64 z5, .int .i64 z6, .int .i64 z7, .int .i64 z8] 87
   have K1 := jd kk
   have m0 : (wr.alloc (.cells #[.int .i64 z0, .int .i64 z1, .int .i64 z2, .int .i64 z3, .int .i64 z4, .int .i64 z5, .int .i64 z6, .int .i64 z7, .int .i64 z8] 87)).cell? ⟨wr.heap.size, 0, none⟩ = some (.int .i64 z0) := kk.cell 0
   have m1 : (wr.alloc (.cells #[.int .i64 z0, .int .i64 z1, .int .i64 z2, .int .i64 z3, .int .i64 z4, .int .i64 z5, .int .i64 z6, .int .i64 z7, .int .i64 z8] 87)).cell? ⟨wr.heap.size, 1, none⟩ = some (.int .i64 z1) := kk.cell 1
   have m2 : (wr.alloc (.cells #[.int .i64 z0, .int .i64 z1, .int .i64 z2, .int .i64 z3, .int .i64 z4, .int .i64 z5, .int .i64 z6, .int .i64 z7, .int .i64 z8] 87)).cell? ⟨wr.heap.size, 2, none⟩ = some (.int .i64 z2) := kk.cell 2
   have m3 : (wr.alloc (.cells #[.int .i64 z0, .int .i64 z1, .int .i64 z2, .int .i64 z3, .int .i64 z4, .int .i64 z5, .int .i64 z6, .int .i64 z7, .int .i64 z8] 87)).cell? ⟨wr.heap.size, 3, none⟩ = some (.int .i64 z3) := kk.cell 3
   have m4 : (wr.alloc (.cells #[.int .i64 z0, .int .i64 z1, .int .i64 z2, .int .i64 z3, .int .i64 z4, .int .i64 z5, .int .i64 z6, .int .i64 z7, .int .i64 z8] 87)).cell? ⟨wr.heap.size, 4, none⟩ = some (.int .i64 z4) := kk.cell 4
   have m5 : (wr.alloc (.cells #[.int .i64 z0, .int .i64 z1, .int .i64 z2, .int .i64 z3, .int .i64 z4, .int .i64 z5, .int .i64 z6, .int .i64 z7, .int .i64 z8] 87)).cell? ⟨wr.heap.size, 5, none⟩ = some (.int .i64 z5) := kk.cell 5
   have m6 : (wr.alloc (.cells #[.int .i64 z0, .int .i64 z1, .int .i64 z2, .int .i64 z3, .int .i64 z4, .int .i64 z5, .int .i64 z6, .int .i64 z7, .int .i64 z8] 87)).cell? ⟨wr.heap.size, 6, none⟩ = some (.int .i64 z6) := kk.cell 6
   have m7 : (wr.alloc (.cells #[.int .i64 z0, .int .i64 z1, .int .i64 z2, .int .i64 z3, .int .i64 z4, .int .i64 z5, .int .i64 z6, .int .i64 z7, .int .i64 z8] 87)).cell? ⟨wr.heap.size, 7, none⟩ = some (.int .i64 z7) := kk.cell 7
   have m8 : (wr.alloc (.cells #[.int .i64 z0, .int .i64 z1, .int .i64 z2, .int .i64 z3, .int .i64 z4, .int .i64 z5, .int .i64 z6, .int .i64 z7, .int .i64 z8] 87)).cell? ⟨wr.heap.size, 8, none⟩ = some (.int .i64 z8) := kk.cell 8
   have HLen := jd (show L.length < maxLen from Nat.lt_of_le_of_lt (seen_len HS.out) (by decide))
   have RS := jd (show wr.heap.size < (wr.alloc (.cells #[.int .i64 z0, .int .i64 z1, .int .i64 z2, .int .i64 z3, .int .i64 z4, .int .i64 z5, .int .i64 z6, .int .i64 z7, .int .i64 z8] 87)).heap.size by simp)
   clear kk c CC
   go_wp2_with fail
   generalize wr.alloc (.cells #[.int .i64 z0, .int .i64 z1, .int .i64 z2, .int .i64 z3, .int .i64 z4, .int .i64 z5, .int .i64 z6, .int .i64 z7, .int .i64 z8] 87) = w1 at *
   refine (iTakes_tab b L z0 z1 z2 z3 z4 z5 z6 z7 z8 w1 T1.out (seen_solo HS.out)).mono ?_
   rintro e w2 ⟨rfl, b2⟩
   have T2 := jd (T1.out.keep b2 T1.out.lt)
   have C2 := jd (C1.out.trans (b2.mono (Nat.le_trans H1.out C1.out.size)))
   have K2 := jd (K1.out.keep b2 RS.out)
   clear b2 m0 m1 m2 m3 m4 m5 m6 m7 m8
   cases p : takesT L ⟨z0, z1, z2, z3, z4, z5, z6, z7, z8⟩
   case false =>
    have HV := jd (show overB l es = false from overB_step HJ.out (by rw [HA.out, ← takes_may HS.out, p]))
    go_wp2
    go_ret
    exact ⟨ret_bool HV.out.symm, fun h9 => absurd (HV.out.symm.trans h9) Bool.false_ne_true, C2.out⟩
   case true =>
    have HMay := jd (show mayB L ⟨z0, z1, z2, z3, z4, z5, z6, z7, z8⟩ = true by rw [← takes_may HS.out, p])
    have HALL2 := jd (show ∀ q, q < j + 1 → overAt l es q = true from fun q hq => by
     rcases Nat.lt_or_ge q j with h2 | h2
     · exact HALL.out q h2
     · obtain rfl : q = j := by omega
       rw [HA.out, HMay.out])
    have m0 : w2.cell? ⟨wr.heap.size, 0, none⟩ = some (.int .i64 z0) := K2.out.cell 0
    have m1 : w2.cell? ⟨wr.heap.size, 1, none⟩ = some (.int .i64 z1) := K2.out.cell 1
    have m2 : w2.cell? ⟨wr.heap.size, 2, none⟩ = some (.int .i64 z2) := K2.out.cell 2
    have m3 : w2.cell? ⟨wr.heap.size, 3, none⟩ = some (.int .i64 z3) := K2.out.cell 3
    have m4 : w2.cell? ⟨wr.heap.size, 4, none⟩ = some (.int .i64 z4) := K2.out.cell 4
    have m5 : w2.cell? ⟨wr.heap.size, 5, none⟩ = some (.int .i64 z5) := K2.out.cell 5
    have m6 : w2.cell? ⟨wr.heap.size, 6, none⟩ = some (.int .i64 z6) := K2.out.cell 6
    have m7 : w2.cell? ⟨wr.heap.size, 7, none⟩ = some (.int .i64 z7) := K2.out.cell 7
    have m8 : w2.cell? ⟨wr.heap.size, 8, none⟩ = some (.int .i64 z8) := K2.out.cell 8
    go_wp2_with fail
    refine (iRecord_tab b n0 L z0 z1 z2 z3 z4 z5 z6 z7 z8 w2 T2.out (seen_solo HS.out) (may_idx HMay.out) HLen.out H0.out (Nat.le_trans H1.out C2.out.size)).mono ?_
    rintro e w3 ⟨rfl, t3, b3⟩
    have T3 := jd (show Tab w3 b (overM l (es.take (j + 1))) by rw [HM.out]; exact t3.perm (rec_perm HS.out HMay.out))
    have C3 := jd (C2.out.trans b3)
    clear t3 b3 m0 m1 m2 m3 m4 m5 m6 m7 m8
    go_wp2
    go_roundw
    case rel => exact ⟨j + 1, by omega, by go_num, HALL2.out, T3.out, C3.out⟩
    case measure => simp [intOf]; omega
end Go.Proofs.YtmjifhjhialcbaaGreat

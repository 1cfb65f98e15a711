/- Parts of my texts: MarkI3. -/
import Derived.Test.YthjjdelpdiipdaaGreatDoorMX18
import Derived.Test.YthjjdelpdiipdaaGreatDoorMX31
import Derived.Deep.DeepCutAuto
namespace Go.Proofs.YthjjdelpdiipdaaGreatDoor
set_option maxRecDepth 100000
set_option linter.unusedVariables false
open Go.RowKit
def freshT (l : List MarkM) (q s : Int) : Bool := askB q && (inB s 1 2000 && decide ((findM l q).ms < s))
def takesT (l : List MarkM) (e : EntM) : Bool := entB e && (freshT l e.cl e.sq && decide (maxTo l l.length < e.idx))
def Solo (l : List MarkM) : Prop := l.Pairwise (fun a b => a.mc ≠ b.mc)
set_option maxHeartbeats 3200000 in
theorem iFresh_tab (b : Nat) (l : List MarkM) (q s : Int) (w : World) (h : Tab w b l) (hd : Solo l) :
    Calls Tryz.prog 173 #[.map (some b), .int .i64 q, .int .i64 s] w fun e w' => e = .returned (.bool (freshT l q s)) ∧ Below w.heap.size w w' := by
 have HO := iTabOf_any b l q w h hd
 clear h
 by_cases p1 : 2 ≤ q ∧ q ≤ 5
 case neg =>
  have HV := jd (show freshT l q s = false by unfold freshT; rw [show askB q = false from Bool.eq_false_iff.2 (fun h9 => p1 ((inB_iff _ _ _).1 h9)), Bool.false_and])
  clear HO hd
  go_enter Tryz.func173, Tryz.ntmps173
  go_wp2_with (first | (go_at_call 152; refine (i_AskerOk_no q _ p1).mono ?_; rintro e w' ⟨rfl, rfl⟩))
  go_ret
  exact ⟨ret_bool HV.out.symm, Below.refl _ _⟩
 case pos =>
 by_cases p2 : 1 ≤ s ∧ s ≤ 2000
 case neg =>
  have HV := jd (show freshT l q s = false by unfold freshT; rw [show inB s 1 2000 = false from Bool.eq_false_iff.2 (fun h9 => p2 ((inB_iff _ _ _).1 h9)), Bool.false_and, Bool.and_false])
  clear HO hd
  go_enter Tryz.func173, Tryz.ntmps173
  go_wp2_with (first | (go_at_call 152; refine (i_AskerOk_yes q _ p1).mono ?_; rintro e w' ⟨rfl, rfl⟩) | (go_at_call 153; refine (i_isSeq_no s _ p2).mono ?_; rintro e w' ⟨rfl, rfl⟩))
  go_ret
  exact ⟨ret_bool HV.out.symm, Below.refl _ _⟩
 case pos =>
  have HV := jd (show freshT l q s = decide ((findM l q).ms < s) by unfold freshT; rw [show askB q = true from (inB_iff _ _ _).2 p1, (inB_iff _ _ _).2 p2]; rfl)
  clear hd
  obtain ⟨y0, y1, y2, hy⟩ : ∃ y0 y1 y2, findM l q = ⟨y0, y1, y2⟩ := ⟨_, _, _, rfl⟩
  rw [hy] at HV HO
  clear hy
  have hfd : ∀ w9 : World, (Instr.field 114 (.agg #[.int .i64 y0, .int .i64 y1, .int .i64 y2]) 1).run Tryz.prog w9 = .ok (.int .i64 y1) w9 := fun _ => by kernel_rfl
  go_enter Tryz.func173, Tryz.ntmps173
  go_wp2_with (first | (go_at_call 152; refine (i_AskerOk_yes q _ p1).mono ?_; rintro e w' ⟨rfl, rfl⟩) | (go_at_call 153; refine (i_isSeq_yes s _ p2).mono ?_; rintro e w' ⟨rfl, rfl⟩) | (go_at_call 174; refine HO.mono ?_; rintro e w2 ⟨rfl, b2⟩))
  go_ret
  exact ⟨by first | (rw [HV.out]; done) | (rw [HV.out]; rfl), b2⟩
set_option maxHeartbeats 6400000 in
theorem iTakes_tab (b : Nat) (l : List MarkM) (e0 e1 e2 e3 e4 e5 e6 e7 e8 : Int) (w : World) (h : Tab w b l) (hd : Solo l) :
    Calls Tryz.prog 157 #[.map (some b), .agg #[.int .i64 e0, .int .i64 e1, .int .i64 e2, .int .i64 e3, .int .i64 e4, .int .i64 e5, .int .i64 e6, .int .i64 e7, .int .i64 e8]] w fun e w' => e = .returned (.bool (takesT l ⟨e0, e1, e2, e3, e4, e5, e6, e7, e8⟩)) ∧ Below w.heap.size w w' := by
 have hbl := h.lt
 have c := (Below.refl w.heap.size w).alloc (Nat.le_refl _) (.cells #[.int .i64 e0, .int .i64 e1, .int .i64 e2, .int .i64 e3, .int .i64 e4, .int .i64 e5, .int .i64 e6, .int .i64 e7, .int .i64 e8] 98)
 have H := jd (h.keep ((Below.refl w.heap.size w).alloc (Nat.le_refl _) (.cells #[.int .i64 e0, .int .i64 e1, .int .i64 e2, .int .i64 e3, .int .i64 e4, .int .i64 e5, .int .i64 e6, .int .i64 e7, .int .i64 e8] 98)) hbl)
 have k := Blk.new w #[.int .i64 e0, .int .i64 e1, .int .i64 e2, .int .i64 e3, .int .i64 e4, .int .i64 e5, .int .i64 e6, .int .i64 e7, .int .i64 e8] 98
 have HD := jd hd
 have HT := jd (show takesT l ⟨e0, e1, e2, e3, e4, e5, e6, e7, e8⟩ = (entB ⟨e0, e1, e2, e3, e4, e5, e6, e7, e8⟩ && (freshT l e2 e3 && decide (maxTo l l.length < e0))) from rfl)
 clear h hd
 have f0 : (w.alloc (.cells #[.int .i64 e0, .int .i64 e1, .int .i64 e2, .int .i64 e3, .int .i64 e4, .int .i64 e5, .int .i64 e6, .int .i64 e7, .int .i64 e8] 98)).cell? ⟨w.heap.size, 0, none⟩ = some (.int .i64 e0) := k.cell 0
 have f2 : (w.alloc (.cells #[.int .i64 e0, .int .i64 e1, .int .i64 e2, .int .i64 e3, .int .i64 e4, .int .i64 e5, .int .i64 e6, .int .i64 e7, .int .i64 e8] 98)).cell? ⟨w.heap.size, 2, none⟩ = some (.int .i64 e2) := k.cell 2
 have f3 : (w.alloc (.cells #[.int .i64 e0, .int .i64 e1, .int .i64 e2, .int .i64 e3, .int .i64 e4, .int .i64 e5, .int .i64 e6, .int .i64 e7, .int .i64 e8] 98)).cell? ⟨w.heap.size, 3, none⟩ = some (.int .i64 e3) := k.cell 3
 have f1 : (w.alloc (.cells #[.int .i64 e0, .int .i64 e1, .int .i64 e2, .int .i64 e3, .int .i64 e4, .int .i64 e5, .int .i64 e6, .int .i64 e7, .int .i64 e8] 98)).cell? ⟨w.heap.size, 1, none⟩ = some (.int .i64 e1) := k.cell 1
 have f4 : (w.alloc (.cells #[.int .i64 e0, .int .i64 e1, .int .i64 e2, .int .i64 e3, .int .i64 e4, .int .i64 e5, .int .i64 e6, .int .i64 e7, .int .i64 e8] 98)).cell? ⟨w.heap.size, 4, none⟩ = some (.int .i64 e4) := k.cell 4
 have f5 : (w.alloc (.cells #[.int .i64 e0, .int .i64 e1, .int .i64 e2, .int .i64 e3, .int .i64 e4, .int .i64 e5, .int .i64 e6, .int .i64 e7, .int .i64 e8] 98)).cell? ⟨w.heap.size, 5, none⟩ = some (.int .i64 e5) := k.cell 5
 have f6 : (w.alloc (.cells #[.int .i64 e0, .int .i64 e1, .int .i64 e2, .int .i64 e3, .int .i64 e4, .int .i64 e5, .int .i64 e6, .int .i64 e7, .int .i64 e8] 98)).cell? ⟨w.heap.size, 6, none⟩ = some (.int .i64 e6) := k.cell 6
 have f7 : (w.alloc (.cells #[.int .i64 e0, .int .i64 e1, .int .i64 e2, .int .i64 e3, .int .i64 e4, .int .i64 e5, .int .i64 e6, .int .i64 e7, .int .i64 e8] 98)).cell? ⟨w.heap.size, 7, none⟩ = some (.int .i64 e7) := k.cell 7
 have f8 : (w.alloc (.cells #[.int .i64 e0, .int .i64 e1, .int .i64 e2, .int .i64 e3, .int .i64 e4, .int .i64 e5, .int .i64 e6, .int .i64 e7, .int .i64 e8] 98)).cell? ⟨w.heap.size, 8, none⟩ = some (.int .i64 e8) := k.cell 8
 clear k
 go_enter Tryz.func157, Tryz.ntmps157
 go_wp2_with fail
 generalize w.alloc (.cells #[.int .i64 e0, .int .i64 e1, .int .i64 e2, .int .i64 e3, .int .i64 e4, .int .i64 e5, .int .i64 e6, .int .i64 e7, .int .i64 e8] 98) = w1 at *
 have hb1 := jd (H.out.lt)
 cases p1 : entB ⟨e0, e1, e2, e3, e4, e5, e6, e7, e8⟩
 case false =>
  have HV := jd (show takesT l ⟨e0, e1, e2, e3, e4, e5, e6, e7, e8⟩ = false by rw [HT.out, p1, Bool.false_and])
  refine wp_region_cls (fun v => v.cell? ⟨w.heap.size, 0, none⟩ = some (.int .i64 e0) ∧ v.cell? ⟨w.heap.size, 1, none⟩ = some (.int .i64 e1) ∧ v.cell? ⟨w.heap.size, 2, none⟩ = some (.int .i64 e2) ∧ v.cell? ⟨w.heap.size, 3, none⟩ = some (.int .i64 e3) ∧ v.cell? ⟨w.heap.size, 4, none⟩ = some (.int .i64 e4) ∧ v.cell? ⟨w.heap.size, 5, none⟩ = some (.int .i64 e5) ∧ v.cell? ⟨w.heap.size, 6, none⟩ = some (.int .i64 e6) ∧ v.cell? ⟨w.heap.size, 7, none⟩ = some (.int .i64 e7) ∧ v.cell? ⟨w.heap.size, 8, none⟩ = some (.int .i64 e8) ∧ Tab v b l) (by kernel_rfl) (by kernel_rfl) (fun v hv => ⟨cq hv f0, cq hv f1, cq hv f2, cq hv f3, cq hv f4, cq hv f5, cq hv f6, cq hv f7, cq hv f8, H.out.keep hv hb1.out⟩) ?_
  intro CL HF HC
  repeat
   (first
      | go_big_quiet_skip
      | (go_big_quiet_want
         go_big_quiet_op
         first
          | go_big_quiet_on
          | (apply Exists.intro
             refine ⟨fun v hv => ?_, ?_⟩
             · obtain ⟨a0, a1, a2, a3, a4, a5, a6, a7, a8, a9⟩ := HF v hv
               first
                | (go_at_call 156; exact Calls.cls HC hv (iEntryOk_any e0 e1 e2 e3 e4 e5 e6 e7 e8 v) (congrArg Value.bool p1))
                | exact rfl
                | (go_simp; exact rfl)
                | (go_simp; exact ⟨rfl, hv⟩)
             go_big_quiet_on)))
  refine wpQuiet_nil ?_
  intro w9 b9
  have CC := jd (c.trans (b9.mono c.size))
  clear c b9 f0 f1 f2 f3 f4 f5 f6 f7 f8
  go_wp2
  go_ret
  exact ⟨ret_bool (by first | exact HV.out.symm | (rw [HV.out]; rw [p4] at e9; exact e9)), CC.out⟩
 case true =>
 cases p2 : freshT l e2 e3
 case false =>
  have HV := jd (show takesT l ⟨e0, e1, e2, e3, e4, e5, e6, e7, e8⟩ = false by rw [HT.out, p2, Bool.false_and, Bool.and_false])
  refine wp_region_cls (fun v => v.cell? ⟨w.heap.size, 0, none⟩ = some (.int .i64 e0) ∧ v.cell? ⟨w.heap.size, 1, none⟩ = some (.int .i64 e1) ∧ v.cell? ⟨w.heap.size, 2, none⟩ = some (.int .i64 e2) ∧ v.cell? ⟨w.heap.size, 3, none⟩ = some (.int .i64 e3) ∧ v.cell? ⟨w.heap.size, 4, none⟩ = some (.int .i64 e4) ∧ v.cell? ⟨w.heap.size, 5, none⟩ = some (.int .i64 e5) ∧ v.cell? ⟨w.heap.size, 6, none⟩ = some (.int .i64 e6) ∧ v.cell? ⟨w.heap.size, 7, none⟩ = some (.int .i64 e7) ∧ v.cell? ⟨w.heap.size, 8, none⟩ = some (.int .i64 e8) ∧ Tab v b l) (by kernel_rfl) (by kernel_rfl) (fun v hv => ⟨cq hv f0, cq hv f1, cq hv f2, cq hv f3, cq hv f4, cq hv f5, cq hv f6, cq hv f7, cq hv f8, H.out.keep hv hb1.out⟩) ?_
  intro CL HF HC
  repeat
   (first
      | go_big_quiet_skip
      | (go_big_quiet_want
         go_big_quiet_op
         first
          | go_big_quiet_on
          | (apply Exists.intro
             refine ⟨fun v hv => ?_, ?_⟩
             · obtain ⟨a0, a1, a2, a3, a4, a5, a6, a7, a8, a9⟩ := HF v hv
               first
                | (go_at_call 156; exact Calls.cls HC hv (iEntryOk_any e0 e1 e2 e3 e4 e5 e6 e7 e8 v) (congrArg Value.bool p1))
                | (go_at_call 173; exact Calls.cls HC hv (iFresh_tab b l e2 e3 v a9 HD.out) (congrArg Value.bool p2))
                | exact rfl
                | (go_simp; exact rfl)
                | (go_simp; exact ⟨rfl, hv⟩)
             go_big_quiet_on)))
  refine wpQuiet_nil ?_
  intro w9 b9
  have CC := jd (c.trans (b9.mono c.size))
  clear c b9 f0 f1 f2 f3 f4 f5 f6 f7 f8
  go_wp2
  go_ret
  exact ⟨ret_bool (by first | exact HV.out.symm | (rw [HV.out]; rw [p4] at e9; exact e9)), CC.out⟩
 case true =>
 obtain ⟨y, p4⟩ : ∃ y, y = maxTo l l.length := ⟨_, rfl⟩
 rw [← p4] at HT
 by_cases p3 : y < e0
 case neg =>
  have e9 : decide (y < e0) = false := decide_eq_false p3
  have HV := jd (show takesT l ⟨e0, e1, e2, e3, e4, e5, e6, e7, e8⟩ = false by rw [HT.out, e9, Bool.and_false, Bool.and_false])
  refine wp_region_cls (fun v => v.cell? ⟨w.heap.size, 0, none⟩ = some (.int .i64 e0) ∧ v.cell? ⟨w.heap.size, 1, none⟩ = some (.int .i64 e1) ∧ v.cell? ⟨w.heap.size, 2, none⟩ = some (.int .i64 e2) ∧ v.cell? ⟨w.heap.size, 3, none⟩ = some (.int .i64 e3) ∧ v.cell? ⟨w.heap.size, 4, none⟩ = some (.int .i64 e4) ∧ v.cell? ⟨w.heap.size, 5, none⟩ = some (.int .i64 e5) ∧ v.cell? ⟨w.heap.size, 6, none⟩ = some (.int .i64 e6) ∧ v.cell? ⟨w.heap.size, 7, none⟩ = some (.int .i64 e7) ∧ v.cell? ⟨w.heap.size, 8, none⟩ = some (.int .i64 e8) ∧ Tab v b l) (by kernel_rfl) (by kernel_rfl) (fun v hv => ⟨cq hv f0, cq hv f1, cq hv f2, cq hv f3, cq hv f4, cq hv f5, cq hv f6, cq hv f7, cq hv f8, H.out.keep hv hb1.out⟩) ?_
  intro CL HF HC
  repeat
   (first
      | go_big_quiet_skip
      | (go_big_quiet_want
         go_big_quiet_op
         first
          | go_big_quiet_on
          | (apply Exists.intro
             refine ⟨fun v hv => ?_, ?_⟩
             · obtain ⟨a0, a1, a2, a3, a4, a5, a6, a7, a8, a9⟩ := HF v hv
               first
                | (go_at_call 156; exact Calls.cls HC hv (iEntryOk_any e0 e1 e2 e3 e4 e5 e6 e7 e8 v) (congrArg Value.bool p1))
                | (go_at_call 173; exact Calls.cls HC hv (iFresh_tab b l e2 e3 v a9 HD.out) (congrArg Value.bool p2))
                | (go_at_call 155; exact Calls.cls HC hv (iLast_any b l v a9) (congrArg (Value.int .i64) p4.symm))
                | exact rfl
                | (go_simp; exact rfl)
                | (go_simp; exact ⟨rfl, hv⟩)
             go_big_quiet_on)))
  refine wpQuiet_nil ?_
  intro w9 b9
  have CC := jd (c.trans (b9.mono c.size))
  clear c b9 f0 f1 f2 f3 f4 f5 f6 f7 f8
  go_wp2
  go_ret
  exact ⟨ret_bool (by first | exact HV.out.symm | (rw [HV.out]; rw [p4] at e9; exact e9)), CC.out⟩
 case pos =>
  have e9 : decide (y < e0) = true := decide_eq_true p3
  have HV := jd (show takesT l ⟨e0, e1, e2, e3, e4, e5, e6, e7, e8⟩ = true by rw [HT.out, e9, p1, p2]; rfl)
  refine wp_region_cls (fun v => v.cell? ⟨w.heap.size, 0, none⟩ = some (.int .i64 e0) ∧ v.cell? ⟨w.heap.size, 1, none⟩ = some (.int .i64 e1) ∧ v.cell? ⟨w.heap.size, 2, none⟩ = some (.int .i64 e2) ∧ v.cell? ⟨w.heap.size, 3, none⟩ = some (.int .i64 e3) ∧ v.cell? ⟨w.heap.size, 4, none⟩ = some (.int .i64 e4) ∧ v.cell? ⟨w.heap.size, 5, none⟩ = some (.int .i64 e5) ∧ v.cell? ⟨w.heap.size, 6, none⟩ = some (.int .i64 e6) ∧ v.cell? ⟨w.heap.size, 7, none⟩ = some (.int .i64 e7) ∧ v.cell? ⟨w.heap.size, 8, none⟩ = some (.int .i64 e8) ∧ Tab v b l) (by kernel_rfl) (by kernel_rfl) (fun v hv => ⟨cq hv f0, cq hv f1, cq hv f2, cq hv f3, cq hv f4, cq hv f5, cq hv f6, cq hv f7, cq hv f8, H.out.keep hv hb1.out⟩) ?_
  intro CL HF HC
  repeat
   (first
      | go_big_quiet_skip
      | (go_big_quiet_want
         go_big_quiet_op
         first
          | go_big_quiet_on
          | (apply Exists.intro
             refine ⟨fun v hv => ?_, ?_⟩
             · obtain ⟨a0, a1, a2, a3, a4, a5, a6, a7, a8, a9⟩ := HF v hv
               first
                | (go_at_call 156; exact Calls.cls HC hv (iEntryOk_any e0 e1 e2 e3 e4 e5 e6 e7 e8 v) (congrArg Value.bool p1))
                | (go_at_call 173; exact Calls.cls HC hv (iFresh_tab b l e2 e3 v a9 HD.out) (congrArg Value.bool p2))
                | (go_at_call 155; exact Calls.cls HC hv (iLast_any b l v a9) (congrArg (Value.int .i64) p4.symm))
                | exact rfl
                | (go_simp; exact rfl)
                | (go_simp; exact ⟨rfl, hv⟩)
             go_big_quiet_on)))
  refine wpQuiet_nil ?_
  intro w9 b9
  have CC := jd (c.trans (b9.mono c.size))
  clear c b9 f0 f1 f2 f3 f4 f5 f6 f7 f8
  go_wp2
  go_ret
  exact ⟨ret_bool (by first | exact HV.out.symm | (rw [HV.out]; rw [p4] at e9; exact e9)), CC.out⟩
def recT (l : List MarkM) (e : EntM) : List MarkM := putT (delT l (findM l e.cl).mi) ⟨e.cl, e.sq, e.idx⟩
theorem w64_in {x : Int} (h : 0 ≤ x ∧ x ≤ 2000) : w64 x := by
 unfold w64
 simp only [Lit.wf, Bool.and_eq_true, decide_eq_true_eq]
 have h1 : IntKind.i64.min ≤ 0 := by decide
 have h2 : (2000 : Int) ≤ IntKind.i64.max := by decide
 omega
theorem findM_w64 {l : List MarkM} (h : ∀ m ∈ l, w64 m.mi) (q : Int) : w64 (findM l q).mi := by
 unfold findM
 cases hf : l.find? fun x => x.mc == q with
 | none => exact w64_in ⟨Int.le_refl 0, by decide⟩
 | some m => exact h m (List.mem_of_find?_eq_some hf)
set_option maxHeartbeats 6400000 in
theorem iRecord_tab (b n0 : Nat) (l : List MarkM) (e0 e1 e2 e3 e4 e5 e6 e7 e8 : Int) (w : World) (h : Tab w b l) (hd : Solo l) (hi : w64 e0) (hn : l.length < maxLen) (h0 : n0 ≤ b) (h1 : n0 ≤ w.heap.size) :
    Calls Tryz.prog 158 #[.map (some b), .agg #[.int .i64 e0, .int .i64 e1, .int .i64 e2, .int .i64 e3, .int .i64 e4, .int .i64 e5, .int .i64 e6, .int .i64 e7, .int .i64 e8]] w fun e w' => e = .returned (.tuple #[]) ∧ Tab w' b (recT l ⟨e0, e1, e2, e3, e4, e5, e6, e7, e8⟩) ∧ Below n0 w w' := by
 have hbl := h.lt
 have c := (Below.refl w.heap.size w).alloc (Nat.le_refl _) (.cells #[.int .i64 e0, .int .i64 e1, .int .i64 e2, .int .i64 e3, .int .i64 e4, .int .i64 e5, .int .i64 e6, .int .i64 e7, .int .i64 e8] 98)
 have H := jd (h.keep ((Below.refl w.heap.size w).alloc (Nat.le_refl _) (.cells #[.int .i64 e0, .int .i64 e1, .int .i64 e2, .int .i64 e3, .int .i64 e4, .int .i64 e5, .int .i64 e6, .int .i64 e7, .int .i64 e8] 98)) hbl)
 have k := Blk.new w #[.int .i64 e0, .int .i64 e1, .int .i64 e2, .int .i64 e3, .int .i64 e4, .int .i64 e5, .int .i64 e6, .int .i64 e7, .int .i64 e8] 98
 have HD := jd hd
 have HI := jd hi
 have HW := jd (findM_w64 h.fit e2)
 have HN := jd hn
 have HR := jd (show recT l ⟨e0, e1, e2, e3, e4, e5, e6, e7, e8⟩ = putT (delT l (findM l e2).mi) ⟨e2, e3, e0⟩ from rfl)
 obtain ⟨y0, y1, y2, hy⟩ : ∃ y0 y1 y2, findM l e2 = ⟨y0, y1, y2⟩ := ⟨_, _, _, rfl⟩
 rw [hy] at HW HR
 have HY := jd hy
 have HN2 := jd (show (delT l y2).length < maxLen from Nat.lt_of_le_of_lt (List.length_filter_le _ _) hn)
 clear h hd hi hn hy
 have hfd : ∀ w9 : World, (Instr.field 114 (.agg #[.int .i64 y0, .int .i64 y1, .int .i64 y2]) 2).run Tryz.prog w9 = .ok (.int .i64 y2) w9 := fun _ => by kernel_rfl
 have K := jd k
 have C := jd c
 have f2 : (w.alloc (.cells #[.int .i64 e0, .int .i64 e1, .int .i64 e2, .int .i64 e3, .int .i64 e4, .int .i64 e5, .int .i64 e6, .int .i64 e7, .int .i64 e8] 98)).cell? ⟨w.heap.size, 2, none⟩ = some (.int .i64 e2) := k.cell 2
 clear k c
 go_enter Tryz.func158, Tryz.ntmps158
 go_wp2_with fail
 generalize w.alloc (.cells #[.int .i64 e0, .int .i64 e1, .int .i64 e2, .int .i64 e3, .int .i64 e4, .int .i64 e5, .int .i64 e6, .int .i64 e7, .int .i64 e8] 98) = w1 at *
 have hc := iTabOf_any b l e2 w1 H.out HD.out
 rw [HY.out] at hc
 refine hc.mono ?_
 rintro e w2 ⟨rfl, b2⟩
 have T2 := jd (H.out.keep b2 H.out.lt)
 have K2 := jd (K.out.keep b2 K.out.lt)
 have C2 := jd (C.out.trans (b2.mono C.out.size))
 have hb2 := jd H.out.lt
 clear hc b2 f2 H K C
 go_wp2_with (first
  | (at_delete
     refine wpList_del_tab rfl (.tmp 4) (.tmp 9) 156 114 (by rfl) Tryz.underlying156 (by rfl) T2.out y2 (by rfl) HW.out ?_
     intro w3 t3 g3
     have T3 := jd t3
     have K3 := jd (show Blk w3 w.heap.size #[.int .i64 e0, .int .i64 e1, .int .i64 e2, .int .i64 e3, .int .i64 e4, .int .i64 e5, .int .i64 e6, .int .i64 e7, .int .i64 e8] 98 from (g3.block _ K2.out.lt (by intro e; injection e with e; omega)).trans K2.out)
     have C3 := jd ((C2.out.mono h1).grown g3 (Nat.le_trans h1 C2.out.size) (fun k e => by cases e; exact h0))
     have q0 : w3.cell? ⟨w.heap.size, 0, none⟩ = some (.int .i64 e0) := K3.out.cell 0
     have q2 : w3.cell? ⟨w.heap.size, 2, none⟩ = some (.int .i64 e2) := K3.out.cell 2
     have q3 : w3.cell? ⟨w.heap.size, 3, none⟩ = some (.int .i64 e3) := K3.out.cell 3
     clear t3 g3 T2 K2 C2)
  | (at_mapUpdate
     refine wpList_put_tab rfl (.tmp 10) (.tmp 12) (.tmp 19) 156 114 (by rfl) Tryz.underlying156 (by rfl) T3.out HN2.out ⟨e2, e3, e0⟩ (by rfl) (by rfl) HI.out ?_
     intro w4 t4 g4
     have C4 := jd (C3.out.grown g4 (Nat.le_trans h1 C3.out.size) (fun k e => by cases e; exact h0))
     have T4 := jd t4
     clear t4 g4 q0 q2 q3))
 go_end0
 exact ⟨rfl, by rw [HR.out]; exact T4.out, C4.out⟩
end Go.Proofs.YthjjdelpdiipdaaGreatDoor

/- Parts of my texts: HeadI1 HeadI2 HeadS4. -/
import Derived.Test.YtmjifhjhialcbaaT19
import Derived.Test.YtmjifhjhialcbaaT33
import Derived.Test.YtmjifhjhialcbaaT34
namespace Go.Proofs.Ytmjifhjhialcbaa
set_option maxRecDepth 100000
set_option linter.unusedVariables false
open Go.RowKit
theorem tmod2 (x : Int) : x.tmod 2 = -1 ∨ x.tmod 2 = 0 ∨ x.tmod 2 = 1 := by
 rcases Int.le_total 0 x with h | h
 · rw [Int.tmod_eq_emod_of_nonneg h]
   omega
 · obtain ⟨y, rfl⟩ : ∃ y, x = -y := ⟨-x, by omega⟩
   rw [Int.neg_tmod, Int.tmod_eq_emod_of_nonneg (by omega)]
   omega
set_option maxHeartbeats 3200000 in
theorem iHeadSector_any (x0 x1 x2 : Int) (A : Option Addr) (n cc : Nat) (w : World) :
    Calls Try.prog 49 #[.agg #[.int .i64 x0, .int .i64 x1, .int .i64 x2, .slice A n cc]] w fun e w' => e = .returned (.int .i64 (x0.tmod 2)) ∧ Below w.heap.size w w' := by
 have C := jd ((Below.refl w.heap.size w).alloc (Nat.le_refl _) (.cells #[.int .i64 x0, .int .i64 x1, .int .i64 x2, .slice A n cc] 40))
 have hw0 : IntKind.i64.wrap (x0.tmod 2) = x0.tmod 2 := by have := tmod2 x0; rw [IntKind.wrap_i64]; omega
 go_enter Try.func49, Try.ntmps49
 go_wp2
 go_ret
 exact ⟨rfl, C.out⟩
theorem iReaderOf_any (Aa0 : Option Addr) (na0 ca0 : Nat) (Aa1 : Option Addr) (na1 ca1 : Nat) (Aa2 : Option Addr) (na2 ca2 : Nat) (Aa3 : Option Addr) (na3 ca3 : Nat) (w : World) :
    Calls Try.prog 57 #[.agg #[.slice Aa0 na0 ca0, .slice Aa1 na1 ca1, .slice Aa2 na2 ca2, .slice Aa3 na3 ca3]] w fun e w' => e = .returned (.func (.func 76) #[] #[.pointer (some ⟨w.heap.size, 0, none⟩)]) ∧ w' = w.alloc (.cells #[.slice Aa0 na0 ca0, .slice Aa1 na1 ca1, .slice Aa2 na2 ca2, .slice Aa3 na3 ca3] 60) := by
 go_enter Try.func57, Try.ntmps57
 go_wp2
 go_ret
 exact ⟨rfl, rfl⟩
set_option maxHeartbeats 3200000 in
theorem iReader_any (q : Nat) (Aa0 : Option Addr) (na0 ca0 : Nat) (Aa1 : Option Addr) (na1 ca1 : Nat) (Aa2 : Option Addr) (na2 ca2 : Nat) (Aa3 : Option Addr) (na3 ca3 : Nat) (t : TwoM) (i : Int) (w : World) (hq : Blk w q #[.slice Aa0 na0 ca0, .slice Aa1 na1 ca1, .slice Aa2 na2 ca2, .slice Aa3 na3 ca3] 60) (h : Rd w w.heap.size t.cells [.slice Aa0 na0 ca0, .slice Aa1 na1 ca1, .slice Aa2 na2 ca2, .slice Aa3 na3 ca3]) (hs : t.sz ≤ 1048576) :
    Calls Try.prog 76 #[.int .i64 i, .pointer (some ⟨q, 0, none⟩)] w fun e w' => ∃ A n c, e = .returned (.slice A n c) ∧ Has w' w.heap.size [keptD (rightAt t i)] [.slice A n c] ∧ Below w.heap.size w w' := by
 have f0 : w.cell? ⟨q, 0, none⟩ = some (.slice Aa0 na0 ca0) := hq.cell 0
 have f1 : w.cell? ⟨q, 1, none⟩ = some (.slice Aa1 na1 ca1) := hq.cell 1
 have f2 : w.cell? ⟨q, 2, none⟩ = some (.slice Aa2 na2 ca2) := hq.cell 2
 have f3 : w.cell? ⟨q, 3, none⟩ = some (.slice Aa3 na3 ca3) := hq.cell 3
 have hc := iRightAt_any Aa0 na0 ca0 Aa1 na1 ca1 Aa2 na2 ca2 Aa3 na3 ca3 t i w h hs
 go_enter Try.func76, Try.ntmps76
 go_wp2_with fail
 refine hc.mono ?_
 rintro e w2 ⟨A, n, c, rfl, o, b⟩
 have O := jd o
 have B := jd b
 clear o b
 go_wp2
 go_ret
 exact ⟨A, n, c, rfl, O.out, B.out⟩
set_option maxHeartbeats 3200000 in
theorem iKeptOk_any (Aa0 : Option Addr) (na0 ca0 : Nat) (Aa1 : Option Addr) (na1 ca1 : Nat) (Aa2 : Option Addr) (na2 ca2 : Nat) (Aa3 : Option Addr) (na3 ca3 : Nat) (t : TwoM) (B : Nat) (w : World) (h : Rd w B t.cells [.slice Aa0 na0 ca0, .slice Aa1 na1 ca1, .slice Aa2 na2 ca2, .slice Aa3 na3 ca3]) (hB : B ≤ w.heap.size) (hs : t.sz ≤ 1048577) :
    Calls Try.prog 55 #[.agg #[.slice Aa0 na0 ca0, .slice Aa1 na1 ca1, .slice Aa2 na2 ca2, .slice Aa3 na3 ca3]] w fun e w' => e = .returned (.bool (keptB t)) ∧ Below w.heap.size w w' := by
 have hn0 : t.a.kept.length = na0 := rdKeptLen h.halves.1
 have HH := jd h
 clear h
 have S := Sep.nil w w.heap.size
 have c := Below.refl w.heap.size w
 replace S := S.boxAt c.size (w.heap.size) rfl #[.slice Aa0 na0 ca0, .slice Aa1 na1 ca1, .slice Aa2 na2 ca2, .slice Aa3 na3 ca3] 60
 replace c := al c S
 go_enter Try.func55, Try.ntmps55
 have f0 := lk S 0 0 rfl rfl
 have f1 := lk S 0 1 rfl rfl
 have f2 := lk S 0 2 rfl rfl
 have f3 := lk S 0 3 rfl rfl
 go_wp2_with fail
 generalize w.alloc (.cells #[.slice Aa0 na0 ca0, .slice Aa1 na1 ca1, .slice Aa2 na2 ca2, .slice Aa3 na3 ca3] 60) = w1 at *
 refine (iTwoOk_any Aa0 na0 ca0 Aa1 na1 ca1 Aa2 na2 ca2 Aa3 na3 ca3 t B _ (HH.out.keep (c.mono hB)) (Nat.le_trans hB c.size) hs).mono ?_
 rintro e w2 ⟨rfl, b2⟩
 replace c := c.trans (b2.mono c.size)
 replace S := S.keep b2
 clear b2 f0 f1 f2 f3
 cases hok : twoOk t
 case false =>
  have HV := jd (show false = keptB t by unfold keptB; rw [hok]; rfl)
  have CC := jd c
  clear S c hok hn0
  go_wp2
  go_ret
  exact ⟨ret_bool HV.out, CC.out⟩
 case true =>
  obtain ⟨g5, hg5⟩ : ∃ g, ((na0 : Int) == 22) = g := ⟨_, rfl⟩
  have hg6 : decide ((na0 : Int) = 22) = g5 := by rw [← hg5]; rfl
  have HV := jd (show g5 = keptB t by
   unfold keptB
   rw [hok, ← hg5, Bool.true_and, hn0, Bool.eq_iff_iff, beq_iff_eq, decide_eq_true_eq]
   omega)
  clear hok hn0
  have f4 := lk S 0 0 rfl rfl
  have f5 := lk S 0 1 rfl rfl
  have f6 := lk S 0 2 rfl rfl
  have f7 := lk S 0 3 rfl rfl
  have CC := jd c
  clear S c
  go_wp2
  go_ret
  exact ⟨ret_bool HV.out, CC.out⟩
theorem headOkB_mkI (x0 x1 x2 : Int) (l : List MarkM) : headOkB ⟨x0, x1, x2, l⟩ = true ↔ (0 ≤ x1 ∧ x1 ≤ 2000) ∧ (0 ≤ x0 ∧ x0 ≤ x1) ∧ (0 ≤ x2 ∧ x2 ≤ 1000000) ∧ (0 < x1 ∨ x2 = 0) ∧ seenB l = true ∧ lastS l = x1 := headOkB_iff _
set_option maxHeartbeats 12800000 in
theorem iHeadOk_any (x0 x1 x2 : Int) (A : Option Addr) (n cc B : Nat) (l : List MarkM) (w : World) (h : Rd w B [mrkD l] [.slice A n cc]) (hB : B ≤ w.heap.size) (hs : mrkSz l ≤ 1048577) :
    Calls Try.prog 32 #[.agg #[.int .i64 x0, .int .i64 x1, .int .i64 x2, .slice A n cc]] w fun e w' => e = .returned (.bool (headOkB ⟨x0, x1, x2, l⟩)) ∧ Below w.heap.size w w' := by
 have HH := jd h
 clear h
 have S := Sep.nil w w.heap.size
 have c := Below.refl w.heap.size w
 replace S := S.boxAt c.size (w.heap.size) rfl #[.int .i64 x0, .int .i64 x1, .int .i64 x2, .slice A n cc] 40
 replace c := al c S
 have C := jd c
 by_cases c0 : x1 < 0
 case pos =>
  have d0 : decide (x1 < 0) = true := decide_eq_true (by omega)
  have d0' : decide (0 > x1) = true := decide_eq_true (by omega)
  have HV := jd (show false = headOkB ⟨x0, x1, x2, l⟩ from (Bool.eq_false_iff.2 fun h9 => by have h9 := (headOkB_mkI x0 x1 x2 l).1 h9; omega).symm)
  clear S c 
  go_enter Try.func32, Try.ntmps32
  go_wp2
  go_ret
  exact ⟨ret_bool HV.out, C.out⟩
 have d0 : decide (x1 < 0) = false := decide_eq_false (by omega)
 have d0' : decide (0 > x1) = false := decide_eq_false (by omega)
 by_cases c1 : 2000 < x1
 case pos =>
  have d1 : decide (2000 < x1) = true := decide_eq_true (by omega)
  have d1' : decide (x1 > 2000) = true := decide_eq_true (by omega)
  have HV := jd (show false = headOkB ⟨x0, x1, x2, l⟩ from (Bool.eq_false_iff.2 fun h9 => by have h9 := (headOkB_mkI x0 x1 x2 l).1 h9; omega).symm)
  clear S c 
  go_enter Try.func32, Try.ntmps32
  go_wp2
  go_ret
  exact ⟨ret_bool HV.out, C.out⟩
 have d1 : decide (2000 < x1) = false := decide_eq_false (by omega)
 have d1' : decide (x1 > 2000) = false := decide_eq_false (by omega)
 by_cases c2 : x0 < 0
 case pos =>
  have d2 : decide (x0 < 0) = true := decide_eq_true (by omega)
  have d2' : decide (0 > x0) = true := decide_eq_true (by omega)
  have HV := jd (show false = headOkB ⟨x0, x1, x2, l⟩ from (Bool.eq_false_iff.2 fun h9 => by have h9 := (headOkB_mkI x0 x1 x2 l).1 h9; omega).symm)
  clear S c 
  go_enter Try.func32, Try.ntmps32
  go_wp2
  go_ret
  exact ⟨ret_bool HV.out, C.out⟩
 have d2 : decide (x0 < 0) = false := decide_eq_false (by omega)
 have d2' : decide (0 > x0) = false := decide_eq_false (by omega)
 by_cases c3 : x1 < x0
 case pos =>
  have d3 : decide (x1 < x0) = true := decide_eq_true (by omega)
  have d3' : decide (x0 > x1) = true := decide_eq_true (by omega)
  have HV := jd (show false = headOkB ⟨x0, x1, x2, l⟩ from (Bool.eq_false_iff.2 fun h9 => by have h9 := (headOkB_mkI x0 x1 x2 l).1 h9; omega).symm)
  clear S c 
  go_enter Try.func32, Try.ntmps32
  go_wp2
  go_ret
  exact ⟨ret_bool HV.out, C.out⟩
 have d3 : decide (x1 < x0) = false := decide_eq_false (by omega)
 have d3' : decide (x0 > x1) = false := decide_eq_false (by omega)
 have c5 : (0 ≤ x1 ∧ x1 ≤ 2000) ∧ (0 ≤ x0 ∧ x0 ≤ x1) := by omega
 clear c0 c1 c2 c3
 by_cases c1 : 0 ≤ x2 ∧ x2 ≤ 1000000
 case neg =>
  have C1 := jd c1
  have HV := jd (show false = headOkB ⟨x0, x1, x2, l⟩ from (Bool.eq_false_iff.2 fun h9 => by have h9 := (headOkB_mkI x0 x1 x2 l).1 h9; omega).symm)
  clear S c c5 c1
  go_enter Try.func32, Try.ntmps32
  go_wp2_with (go_at_call 61; refine (i_TimeOk_no x2 _ C1.out).mono ?_; rintro e w' ⟨rfl, rfl⟩)
  go_ret
  exact ⟨ret_bool HV.out, C.out⟩
 have C1 := jd c1
 by_cases c2 : x1 = 0 ∧ x2 ≠ 0
 case pos =>
  have e2 : (x2 == 0) = false := by simpa using c2.2
  have e3 : (x2 != 0) = true := by simpa using c2.2
  have e4 : (x1 == 0) = true := by simpa using c2.1
  have HV := jd (show false = headOkB ⟨x0, x1, x2, l⟩ from (Bool.eq_false_iff.2 fun h9 => by have h9 := (headOkB_mkI x0 x1 x2 l).1 h9; omega).symm)
  clear S c c5 c1 c2
  go_enter Try.func32, Try.ntmps32
  go_wp2_with (go_at_call 61; refine (i_TimeOk_yes x2 _ C1.out).mono ?_; rintro e w' ⟨rfl, rfl⟩)
  go_ret
  exact ⟨ret_bool HV.out, C.out⟩
 have HX := jd (show 0 < x1 ∨ x2 = 0 by omega)
 have HG : ∃ g0 g1 : Bool, (x1 == 0) = g0 ∧ (x2 != 0) = g1 ∧ (g0 && g1) = false := ⟨_, _, rfl, rfl, by rw [Bool.eq_false_iff]; intro h9; simp only [Bool.and_eq_true, beq_iff_eq, bne_iff_ne] at h9; omega⟩
 obtain ⟨g0, g1, hg0, hg1, hgg⟩ := HG
 have hgs : (g0 = false) ∨ (g0 = true ∧ g1 = false) := by cases g0 <;> cases g1 <;> simp_all
 have C5 := jd c5
 clear c2 hgg c1 c5
 rcases hgs with rfl | ⟨rfl, rfl⟩
 · go_enter Try.func32, Try.ntmps32
   have f0 := lk S 0 0 rfl rfl
   have f1 := lk S 0 1 rfl rfl
   have f2 := lk S 0 2 rfl rfl
   have f3 := lk S 0 3 rfl rfl
   go_wp2_with (go_at_call 61; refine (i_TimeOk_yes x2 _ C1.out).mono ?_; rintro e w' ⟨rfl, rfl⟩)
   generalize w.alloc (.cells #[.int .i64 x0, .int .i64 x1, .int .i64 x2, .slice A n cc] 40) = w1 at *
   have hrd := HH.out.keep (c.mono hB)
   have hbs := Nat.le_trans hB c.size
   cases c4 : seenB l
   case false =>
    have HV := jd (show false = headOkB ⟨x0, x1, x2, l⟩ from (Bool.eq_false_iff.2 fun h9 => by have h9 := (headOkB_mkI x0 x1 x2 l).1 h9; rw [h9.2.2.2.2.1] at c4; cases c4).symm)
    refine wp_region_cls (fun v => v.cell? ⟨w.heap.size, 0, none⟩ = some (.int .i64 x0) ∧ v.cell? ⟨w.heap.size, 1, none⟩ = some (.int .i64 x1) ∧ v.cell? ⟨w.heap.size, 2, none⟩ = some (.int .i64 x2) ∧ v.cell? ⟨w.heap.size, 3, none⟩ = some (.slice A n cc) ∧ Rd v B [mrkD l] [.slice A n cc] ∧ B ≤ v.heap.size) (by kernel_rfl) (by kernel_rfl) (fun v hv => ⟨cq hv f0, cq hv f1, cq hv f2, cq hv f3, hrd.keep (hv.mono hbs), Nat.le_trans hbs hv.size⟩) ?_
    intro CL HF HC
    repeat
     (first
        | go_big_quiet_skip
        | (go_big_quiet_want
           go_big_quiet_op
           first
            | go_big_quiet_on
            | (apply Exists.intro
               refine ⟨fun v hv => ?_, ?_⟩
               · obtain ⟨a0, a1, a2, a3, a4, a5⟩ := HF v hv
                 first
                  | (go_at_call 66; exact Calls.cls HC hv (iSeen_any A n cc B l v a4 a5 hs) (congrArg Value.bool c4))
                  | exact rfl
                  | (go_simp; exact rfl)
                  | (go_simp; exact ⟨rfl, hv⟩)
               go_big_quiet_on)))
    refine wpQuiet_nil ?_
    intro w3 b3
    have CC := jd (c.trans (b3.mono c.size))
    clear S c hrd hbs b3 f0 f1 f2 f3
    go_wp2
    go_ret
    exact ⟨ret_bool HV.out, CC.out⟩
   case true =>
    obtain ⟨g5, hg5⟩ : ∃ g, (lastS l == x1) = g := ⟨_, rfl⟩
    have HV := jd (show g5 = headOkB ⟨x0, x1, x2, l⟩ by
     rw [Bool.eq_iff_iff, headOkB_mkI, ← hg5, beq_iff_eq]
     exact ⟨fun h9 => ⟨C5.out.1, C5.out.2, C1.out, HX.out, c4, h9⟩, fun h9 => h9.2.2.2.2.2⟩)
    refine wp_region_cls (fun v => v.cell? ⟨w.heap.size, 0, none⟩ = some (.int .i64 x0) ∧ v.cell? ⟨w.heap.size, 1, none⟩ = some (.int .i64 x1) ∧ v.cell? ⟨w.heap.size, 2, none⟩ = some (.int .i64 x2) ∧ v.cell? ⟨w.heap.size, 3, none⟩ = some (.slice A n cc) ∧ Rd v B [mrkD l] [.slice A n cc] ∧ B ≤ v.heap.size) (by kernel_rfl) (by kernel_rfl) (fun v hv => ⟨cq hv f0, cq hv f1, cq hv f2, cq hv f3, hrd.keep (hv.mono hbs), Nat.le_trans hbs hv.size⟩) ?_
    intro CL HF HC
    repeat
     (first
        | go_big_quiet_skip
        | (go_big_quiet_want
           go_big_quiet_op
           first
            | go_big_quiet_on
            | (apply Exists.intro
               refine ⟨fun v hv => ?_, ?_⟩
               · obtain ⟨a0, a1, a2, a3, a4, a5⟩ := HF v hv
                 first
                  | (go_at_call 66; exact Calls.cls HC hv (iSeen_any A n cc B l v a4 a5 hs) (congrArg Value.bool c4))
                  | (go_at_call 67; exact Calls.cls HC hv (iLastSeen_any A n cc B l v a4 a5 hs) rfl)
                  | exact rfl
                  | (go_simp; exact rfl)
                  | (go_simp; exact ⟨rfl, hv⟩)
               go_big_quiet_on)))
    refine wpQuiet_nil ?_
    intro w3 b3
    have CC := jd (c.trans (b3.mono c.size))
    clear S c hrd hbs b3 f0 f1 f2 f3
    go_wp2
    go_ret
    exact ⟨ret_bool HV.out, CC.out⟩
 · go_enter Try.func32, Try.ntmps32
   have f0 := lk S 0 0 rfl rfl
   have f1 := lk S 0 1 rfl rfl
   have f2 := lk S 0 2 rfl rfl
   have f3 := lk S 0 3 rfl rfl
   go_wp2_with (go_at_call 61; refine (i_TimeOk_yes x2 _ C1.out).mono ?_; rintro e w' ⟨rfl, rfl⟩)
   generalize w.alloc (.cells #[.int .i64 x0, .int .i64 x1, .int .i64 x2, .slice A n cc] 40) = w1 at *
   have hrd := HH.out.keep (c.mono hB)
   have hbs := Nat.le_trans hB c.size
   cases c4 : seenB l
   case false =>
    have HV := jd (show false = headOkB ⟨x0, x1, x2, l⟩ from (Bool.eq_false_iff.2 fun h9 => by have h9 := (headOkB_mkI x0 x1 x2 l).1 h9; rw [h9.2.2.2.2.1] at c4; cases c4).symm)
    refine wp_region_cls (fun v => v.cell? ⟨w.heap.size, 0, none⟩ = some (.int .i64 x0) ∧ v.cell? ⟨w.heap.size, 1, none⟩ = some (.int .i64 x1) ∧ v.cell? ⟨w.heap.size, 2, none⟩ = some (.int .i64 x2) ∧ v.cell? ⟨w.heap.size, 3, none⟩ = some (.slice A n cc) ∧ Rd v B [mrkD l] [.slice A n cc] ∧ B ≤ v.heap.size) (by kernel_rfl) (by kernel_rfl) (fun v hv => ⟨cq hv f0, cq hv f1, cq hv f2, cq hv f3, hrd.keep (hv.mono hbs), Nat.le_trans hbs hv.size⟩) ?_
    intro CL HF HC
    repeat
     (first
        | go_big_quiet_skip
        | (go_big_quiet_want
           go_big_quiet_op
           first
            | go_big_quiet_on
            | (apply Exists.intro
               refine ⟨fun v hv => ?_, ?_⟩
               · obtain ⟨a0, a1, a2, a3, a4, a5⟩ := HF v hv
                 first
                  | (go_at_call 66; exact Calls.cls HC hv (iSeen_any A n cc B l v a4 a5 hs) (congrArg Value.bool c4))
                  | exact rfl
                  | (go_simp; exact rfl)
                  | (go_simp; exact ⟨rfl, hv⟩)
               go_big_quiet_on)))
    refine wpQuiet_nil ?_
    intro w3 b3
    have CC := jd (c.trans (b3.mono c.size))
    clear S c hrd hbs b3 f0 f1 f2 f3
    go_wp2
    go_ret
    exact ⟨ret_bool HV.out, CC.out⟩
   case true =>
    obtain ⟨g5, hg5⟩ : ∃ g, (lastS l == x1) = g := ⟨_, rfl⟩
    have HV := jd (show g5 = headOkB ⟨x0, x1, x2, l⟩ by
     rw [Bool.eq_iff_iff, headOkB_mkI, ← hg5, beq_iff_eq]
     exact ⟨fun h9 => ⟨C5.out.1, C5.out.2, C1.out, HX.out, c4, h9⟩, fun h9 => h9.2.2.2.2.2⟩)
    refine wp_region_cls (fun v => v.cell? ⟨w.heap.size, 0, none⟩ = some (.int .i64 x0) ∧ v.cell? ⟨w.heap.size, 1, none⟩ = some (.int .i64 x1) ∧ v.cell? ⟨w.heap.size, 2, none⟩ = some (.int .i64 x2) ∧ v.cell? ⟨w.heap.size, 3, none⟩ = some (.slice A n cc) ∧ Rd v B [mrkD l] [.slice A n cc] ∧ B ≤ v.heap.size) (by kernel_rfl) (by kernel_rfl) (fun v hv => ⟨cq hv f0, cq hv f1, cq hv f2, cq hv f3, hrd.keep (hv.mono hbs), Nat.le_trans hbs hv.size⟩) ?_
    intro CL HF HC
    repeat
     (first
        | go_big_quiet_skip
        | (go_big_quiet_want
           go_big_quiet_op
           first
            | go_big_quiet_on
            | (apply Exists.intro
               refine ⟨fun v hv => ?_, ?_⟩
               · obtain ⟨a0, a1, a2, a3, a4, a5⟩ := HF v hv
                 first
                  | (go_at_call 66; exact Calls.cls HC hv (iSeen_any A n cc B l v a4 a5 hs) (congrArg Value.bool c4))
                  | (go_at_call 67; exact Calls.cls HC hv (iLastSeen_any A n cc B l v a4 a5 hs) rfl)
                  | exact rfl
                  | (go_simp; exact rfl)
                  | (go_simp; exact ⟨rfl, hv⟩)
               go_big_quiet_on)))
    refine wpQuiet_nil ?_
    intro w3 b3
    have CC := jd (c.trans (b3.mono c.size))
    clear S c hrd hbs b3 f0 f1 f2 f3
    go_wp2
    go_ret
    exact ⟨ret_bool HV.out, CC.out⟩
theorem ints_src {w : World} {g : Nat} {a b : Int} {t : TypeId} (h : Blk w g #[.int .i64 a, .int .i64 b] t) : Src w (some ⟨g, 0, none⟩) 2 1 (ivals ([a, b].flatMap fun y : Int => [y])) :=
 Src.of_blk (off := 0) h fun i hi => by
  have h1 : i = 0 ∨ i = 1 := by omega
  rcases h1 with rfl | rfl <;> rfl
end Go.Proofs.Ytmjifhjhialcbaa

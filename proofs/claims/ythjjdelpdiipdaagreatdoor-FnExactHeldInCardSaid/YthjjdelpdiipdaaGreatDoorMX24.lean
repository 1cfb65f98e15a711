/- Parts of my texts: BookS1. -/
import Derived.Test.YthjjdelpdiipdaaGreatDoorMX23
namespace Go.Proofs.YthjjdelpdiipdaaGreatDoor
set_option maxRecDepth 100000
set_option linter.unusedVariables false
open Go.RowKit
theorem bookB_mk (x0 x1 : Int) (l : List EntM) : bookB ⟨x0, x1, l⟩ = true ↔ (0 ≤ x0 ∧ x0 ≤ 2000) ∧ (0 ≤ x1 ∧ x1 ≤ 1000000) ∧ (x0 ≠ 0 ∨ x1 = 0) ∧ l.length ≤ 20 ∧ entsB l = true ∧ headB ⟨x0, x1, l⟩ = true := bookB_iff _
theorem in_at (x a b : Int) (w : World) : Calls Tryz.prog 33 #[.int .i64 x, .int .i64 a, .int .i64 b] w fun e w' => e = .returned (.bool (inB x a b)) ∧ Below w.heap.size w w' := by
 refine (in_any x a b w).mono ?_
 rintro e w' ⟨rfl, rfl⟩
 exact ⟨rfl, Below.refl _ _⟩
theorem sLast_any (x0 x1 : Int) (A : Option Addr) (n cc : Nat) (w : World) (hx : 0 ≤ x0 ∧ x0 ≤ 1000000) (hn : n ≤ 1048577) :
    Calls Tryz.prog 34 #[.agg #[.int .i64 x0, .int .i64 x1, .slice A n cc]] w fun e w' => e = .returned (.int .i64 (x0 + (n : Int))) ∧ Below w.heap.size w w' := by
 have C := jd ((Below.refl w.heap.size w).alloc (Nat.le_refl _) (.cells #[.int .i64 x0, .int .i64 x1, .slice A n cc] 49))
 have hw : IntKind.i64.wrap (x0 + (n : Int)) = x0 + (n : Int) := by rw [IntKind.wrap_i64]; omega
 clear hx hn
 go_enter Tryz.func34, Tryz.ntmps34
 go_wp2
 go_ret
 exact ⟨by first | rfl | (rw [hw]), C.out⟩
set_option maxHeartbeats 3200000 in
theorem sTimeAt_any (x0 x1 : Int) (A : Option Addr) (n cc B : Nat) (l : List EntM) (i : Int) (w : World) (h : Rd w B [entD l] [.slice A n cc]) (hB : B ≤ w.heap.size) (hs : entSz l ≤ 1048577) (hx : 0 ≤ x0 ∧ x0 ≤ 1000000) (hi : x0 ≤ i ∧ i ≤ x0 + (n : Int)) :
    Calls Tryz.prog 74 #[.agg #[.int .i64 x0, .int .i64 x1, .slice A n cc], .int .i64 i] w fun e w' => e = .returned (.int .i64 (timeAt ⟨x0, x1, l⟩ i)) ∧ Below w.heap.size w w' := by
 have HH := jd h
 obtain ⟨_, _, _, e, hl, _, hcm, hel⟩ := h.ents
 injection e with e1 e2 e3
 subst e1 e2 e3
 have hn : n ≤ 1048577 := by unfold entSz at hs; omega
 have HL := jd hl
 have c := (Below.refl w.heap.size w).alloc (Nat.le_refl _) (.cells #[.int .i64 x0, .int .i64 x1, .slice A n cc] 49)
 have C := jd c
 clear h hl hs
 by_cases he : i = x0
 case pos =>
  have HV := jd (show timeAt ⟨x0, x1, l⟩ i = x1 from if_pos he)
  subst he
  have e1 : (i == i) = true := by simp
  clear hel hcm hn hx hi c
  go_enter Tryz.func74, Tryz.ntmps74
  go_wp2
  go_ret
  exact ⟨ret_i64 HV.out.symm, C.out⟩
 case neg =>
  obtain ⟨j, hj⟩ : ∃ j : Nat, i - x0 = (j : Int) + 1 := ⟨(i - x0 - 1).toNat, by omega⟩
  have hjl : j < l.length := by have := HL.out; omega
  obtain ⟨b, off, rfl, hb, hc⟩ := hel (by omega)
  obtain ⟨_, h1, _⟩ := hc j hjl
  have k1 := cu c h1 (show b < _ by omega)
  obtain ⟨y, hy⟩ : ∃ y, y = l[j].tm := ⟨_, rfl⟩
  rw [← hy] at h1 k1
  have HV := jd (show timeAt ⟨x0, x1, l⟩ i = y by unfold timeAt; rw [if_neg he, show (i - x0 - 1).toNat = j by omega, egetD hjl, ← hy])
  have e1 : (i == x0) = false := by simpa using he
  have hw1 : IntKind.i64.wrap (i - x0) = (j : Int) + 1 := by rw [IntKind.wrap_i64]; omega
  have ep : IntKind.i64.wrap (j : Int) = (j : Int) := by rw [IntKind.wrap_i64]; omega
  have j0 : (0 : Int) ≤ (j : Int) := by omega
  have j1 : (j : Int) < (n : Int) := by omega
  clear hel hc hcm hx hi he hj hy c h1 hb
  go_enter Tryz.func74, Tryz.ntmps74
  go_wp2
  go_ret
  exact ⟨ret_i64 HV.out.symm, C.out⟩
set_option maxHeartbeats 12800000 in
theorem sBookOk_any (x0 x1 : Int) (A : Option Addr) (n cc B : Nat) (l : List EntM) (w : World) (h : Rd w B [entD l] [.slice A n cc]) (hB : B ≤ w.heap.size) (hs : entSz l ≤ 1048577) :
    Calls Tryz.prog 30 #[.agg #[.int .i64 x0, .int .i64 x1, .slice A n cc]] w fun e w' => e = .returned (.bool (bookB ⟨x0, x1, l⟩)) ∧ Below w.heap.size w w' := by
 have HH := jd h
 obtain ⟨_, _, _, e, hl, _, hcm, hel⟩ := h.ents
 injection e with e1 e2 e3
 subst e1 e2 e3
 have hn : n ≤ 1048577 := by unfold entSz at hs; omega
 have HL := jd hl
 have S := Sep.nil w w.heap.size
 have c := Below.refl w.heap.size w
 replace S := S.boxAt c.size (w.heap.size) rfl #[.int .i64 x0, .int .i64 x1, .slice A n cc] 49
 replace c := al c S
 have C := jd c
 by_cases c0 : 0 ≤ x0 ∧ x0 ≤ 2000
 case neg =>
  have C0 := jd c0
  have HV := jd (show false = bookB ⟨x0, x1, l⟩ from (Bool.eq_false_iff.2 fun h9 => by have h9 := (bookB_mk x0 x1 l).1 h9; omega).symm)
  clear hel hcm S c h hl c0
  go_enter Tryz.func30, Tryz.ntmps30
  go_wp2_with (first
   | (go_at_call 33; refine (in_no x0 0 2000 _ C0.out).mono ?_; rintro e w' ⟨rfl, rfl⟩))
  go_ret
  exact ⟨ret_bool HV.out, C.out⟩
 have C0 := jd c0
 by_cases c1 : 0 ≤ x1 ∧ x1 ≤ 1000000
 case neg =>
  have C1 := jd c1
  have HV := jd (show false = bookB ⟨x0, x1, l⟩ from (Bool.eq_false_iff.2 fun h9 => by have h9 := (bookB_mk x0 x1 l).1 h9; omega).symm)
  clear hel hcm S c h hl c0 c1
  go_enter Tryz.func30, Tryz.ntmps30
  go_wp2_with (first
   | (go_at_call 33; refine (in_yes x0 0 2000 _ C0.out).mono ?_; rintro e w' ⟨rfl, rfl⟩)
   | (go_at_call 67; refine (TimeOk_no x1 _ C1.out).mono ?_; rintro e w' ⟨rfl, rfl⟩))
  go_ret
  exact ⟨ret_bool HV.out, C.out⟩
 have C1 := jd c1
 by_cases c2 : x0 = 0 ∧ x1 ≠ 0
 case pos =>
  have e2 : (x1 == 0) = false := by simpa using c2.2
  have e3 : (x1 != 0) = true := by simpa using c2.2
  have e4 : (x0 == 0) = true := by simpa using c2.1
  have HV := jd (show false = bookB ⟨x0, x1, l⟩ from (Bool.eq_false_iff.2 fun h9 => by have h9 := (bookB_mk x0 x1 l).1 h9; omega).symm)
  clear hel hcm S c h hl c0 c1 c2
  go_enter Tryz.func30, Tryz.ntmps30
  go_wp2_with (first
   | (go_at_call 33; refine (in_yes x0 0 2000 _ C0.out).mono ?_; rintro e w' ⟨rfl, rfl⟩)
   | (go_at_call 67; refine (TimeOk_yes x1 _ C1.out).mono ?_; rintro e w' ⟨rfl, rfl⟩))
  go_ret
  exact ⟨ret_bool HV.out, C.out⟩
 have HX := jd (show x0 ≠ 0 ∨ x1 = 0 by omega)
 have HG : ∃ g0 g1 : Bool, (x0 == 0) = g0 ∧ (x1 != 0) = g1 ∧ (g0 && g1) = false := ⟨_, _, rfl, rfl, by rw [Bool.eq_false_iff]; intro h9; simp only [Bool.and_eq_true, beq_iff_eq, bne_iff_ne] at h9; omega⟩
 obtain ⟨g0, g1, hg0, hg1, hgg⟩ := HG
 have hgs : (g0 = false) ∨ (g0 = true ∧ g1 = false) := by cases g0 <;> cases g1 <;> simp_all
 clear c2 hgg
 rcases hgs with rfl | ⟨rfl, rfl⟩
 · by_cases c3 : 20 < n
   case pos =>
    have d3 : decide ((20 : Int) < (n : Int)) = true := decide_eq_true (by omega)
    have d4 : decide ((n : Int) > 20) = true := decide_eq_true (by omega)
    have HV := jd (show false = bookB ⟨x0, x1, l⟩ from (Bool.eq_false_iff.2 fun h9 => by have h9 := (bookB_mk x0 x1 l).1 h9; have := HL.out; omega).symm)
    clear hel hcm S c h hl c0 c1
    go_enter Tryz.func30, Tryz.ntmps30
    go_wp2_with (first
     | (go_at_call 33; refine (in_yes x0 0 2000 _ C0.out).mono ?_; rintro e w' ⟨rfl, rfl⟩)
     | (go_at_call 67; refine (TimeOk_yes x1 _ C1.out).mono ?_; rintro e w' ⟨rfl, rfl⟩))
    go_ret
    exact ⟨ret_bool HV.out, C.out⟩
   have d3 : decide ((20 : Int) < (n : Int)) = false := decide_eq_false (by omega)
   have d4 : decide ((n : Int) > 20) = false := decide_eq_false (by omega)
   go_enter Tryz.func30, Tryz.ntmps30
   have f0 := lk S 0 0 rfl rfl
   have f1 := lk S 0 1 rfl rfl
   have f2 := lk S 0 2 rfl rfl
   go_wp2_with (first
    | (go_at_call 33; refine (in_yes x0 0 2000 _ C0.out).mono ?_; rintro e w' ⟨rfl, rfl⟩)
    | (go_at_call 67; refine (TimeOk_yes x1 _ C1.out).mono ?_; rintro e w' ⟨rfl, rfl⟩))
   generalize w.alloc (.cells #[.int .i64 x0, .int .i64 x1, .slice A n cc] 49) = w1 at *
   refine (sEntries_any A n cc B l _ (HH.out.keep (c.mono hB)) (Nat.le_trans hB c.size) hs).mono ?_
   rintro e w2 ⟨rfl, b2⟩
   replace c := c.trans (b2.mono c.size)
   replace S := S.keep b2
   clear b2 f0 f1 f2
   cases hok : entsB l
   case false =>
    have HV := jd (show false = bookB ⟨x0, x1, l⟩ from (Bool.eq_false_iff.2 fun h9 => by have h9 := (bookB_mk x0 x1 l).1 h9; rw [hok] at h9; exact absurd h9.2.2.2.2.1 (by decide)).symm)
    have CC := jd c
    clear hel S c hok c0 c1
    go_wp2
    go_ret
    exact ⟨ret_bool HV.out, CC.out⟩
   case true =>
    have HB := jd (show headB ⟨x0, x1, l⟩ = bookB ⟨x0, x1, l⟩ by
     rw [Bool.eq_iff_iff, bookB_mk]
     have h8 := HX.out
     have h9 := HL.out
     exact ⟨fun h7 => ⟨c0, c1, h8, by omega, hok, h7⟩, fun h7 => h7.2.2.2.2.2⟩)
    clear hok
    have f3 := lk S 0 0 rfl rfl
    have f4 := lk S 0 1 rfl rfl
    have f5 := lk S 0 2 rfl rfl
    by_cases hn0 : n = 0
    case pos =>
     subst hn0
     have hz : decide (((0 : Nat) : Int) = 0) = true := rfl
     have HV := jd (show true = bookB ⟨x0, x1, l⟩ by rw [← HB.out]; unfold headB; rw [decide_eq_true (show l.length = 0 from HL.out)]; rfl)
     clear c0 c1 hel
     go_wp2_with fail
     refine wp_region_cls (fun v => v.cell? ⟨w.heap.size, 0, none⟩ = some (.int .i64 x0) ∧ v.cell? ⟨w.heap.size, 1, none⟩ = some (.int .i64 x1) ∧ v.cell? ⟨w.heap.size, 2, none⟩ = some (.slice A 0 cc)) (by kernel_rfl) (by kernel_rfl) (fun v hv => ⟨cq hv f3, cq hv f4, cq hv f5⟩) ?_
     intro CL HF HC
     repeat
      (first
         | go_big_quiet_skip
         | (go_big_quiet_want
            go_big_quiet_op
            first
             | go_big_quiet_on
             | (apply Exists.intro
                refine ⟨fun v hv => ?_, ?_⟩
                · obtain ⟨a0, a1, a2⟩ := HF v hv
                  first
                   | exact rfl
                   | (go_simp; exact rfl)
                   | (go_simp; exact ⟨rfl, hv⟩)
                go_big_quiet_on)))
     refine wpQuiet_nil ?_
     intro w3 b3
     have CC := jd (c.trans (b3.mono c.size))
     clear S c f3 f4 f5
     go_wp2
     go_ret
     exact ⟨ret_bool HV.out, CC.out⟩
    case neg =>
     obtain ⟨b, off, rfl, hb, hc⟩ := hel (by omega)
     have hjl : 0 < l.length := by have := HL.out; omega
     obtain ⟨hd0, hd1, _⟩ := hc 0 hjl
     simp only [Nat.zero_mul, Nat.add_zero] at hd0 hd1
     have k0 := cu c hd0 (show b < _ by omega)
     have k1 := cu c hd1 (show b < _ by omega)
     obtain ⟨y0, hy0⟩ : ∃ y, y = l[0].idx := ⟨_, rfl⟩
     obtain ⟨y1, hy1⟩ : ∃ y, y = l[0].tm := ⟨_, rfl⟩
     rw [← hy0] at k0
     rw [← hy1] at k1
     have HQ := jd (show (decide (y0 = x0 + 1) && decide (x1 ≤ y1)) = bookB ⟨x0, x1, l⟩ by rw [← HB.out]; unfold headB; rw [decide_eq_false (show ¬ l.length = 0 by omega), egetD hjl, ← hy0, ← hy1, Bool.false_or])
     have ew : IntKind.i64.wrap (x0 + 1) = x0 + 1 := by rw [IntKind.wrap_i64]; omega
     have hz : decide ((n : Int) = 0) = false := decide_eq_false (by omega)
     have hz2 : ((n : Int) == 0) = false := by simp; omega
     have hz3 : ¬ n = 0 := hn0
     have n0 : (0 : Int) < (n : Int) := by omega
     clear hel hc hd0 hd1 hy0 hy1 c0 c1
     go_wp2_with fail
     by_cases q1 : y0 = x0 + 1
     case neg =>
      have e1 : (y0 == x0 + 1) = false := by simpa using q1
      have HV := jd (show false = bookB ⟨x0, x1, l⟩ by rw [← HQ.out, decide_eq_false q1]; rfl)
      refine wp_region_cls (fun v => v.cell? ⟨w.heap.size, 0, none⟩ = some (.int .i64 x0) ∧ v.cell? ⟨w.heap.size, 1, none⟩ = some (.int .i64 x1) ∧ v.cell? ⟨w.heap.size, 2, none⟩ = some (.slice (some ⟨b, off, none⟩) n cc) ∧ v.cell? ⟨b, off, none⟩ = some (.int .i64 y0) ∧ v.cell? ⟨b, off + 1, none⟩ = some (.int .i64 y1)) (by kernel_rfl) (by kernel_rfl) (fun v hv => ⟨cq hv f3, cq hv f4, cq hv f5, cq hv k0, cq hv k1⟩) ?_
      intro CL HF HC
      repeat
       (first
          | go_big_quiet_skip
          | (go_big_quiet_want
             go_big_quiet_op
             first
              | go_big_quiet_on
              | (apply Exists.intro
                 refine ⟨fun v hv => ?_, ?_⟩
                 · obtain ⟨a0, a1, a2, a3, a4⟩ := HF v hv
                   first
                    | exact rfl
                    | (go_simp; exact rfl)
                    | (go_simp; exact ⟨rfl, hv⟩)
                 go_big_quiet_on)))
      refine wpQuiet_nil ?_
      intro w3 b3
      have CC := jd (c.trans (b3.mono c.size))
      clear S c k0 k1 f3 f4 f5
      go_wp2
      go_ret
      exact ⟨ret_bool HV.out, CC.out⟩
     case pos =>
      subst q1
      have e1 : (x0 + 1 == x0 + 1) = true := by simp
      have HV := jd (show decide (x1 ≤ y1) = bookB ⟨x0, x1, l⟩ by rw [← HQ.out, decide_eq_true rfl, Bool.true_and])
      refine wp_region_cls (fun v => v.cell? ⟨w.heap.size, 0, none⟩ = some (.int .i64 x0) ∧ v.cell? ⟨w.heap.size, 1, none⟩ = some (.int .i64 x1) ∧ v.cell? ⟨w.heap.size, 2, none⟩ = some (.slice (some ⟨b, off, none⟩) n cc) ∧ v.cell? ⟨b, off, none⟩ = some (.int .i64 (x0 + 1)) ∧ v.cell? ⟨b, off + 1, none⟩ = some (.int .i64 y1)) (by kernel_rfl) (by kernel_rfl) (fun v hv => ⟨cq hv f3, cq hv f4, cq hv f5, cq hv k0, cq hv k1⟩) ?_
      intro CL HF HC
      repeat
       (first
          | go_big_quiet_skip
          | (go_big_quiet_want
             go_big_quiet_op
             first
              | go_big_quiet_on
              | (apply Exists.intro
                 refine ⟨fun v hv => ?_, ?_⟩
                 · obtain ⟨a0, a1, a2, a3, a4⟩ := HF v hv
                   first
                    | exact rfl
                    | (go_simp; exact rfl)
                    | (go_simp; exact ⟨rfl, hv⟩)
                 go_big_quiet_on)))
      refine wpQuiet_nil ?_
      intro w3 b3
      have CC := jd (c.trans (b3.mono c.size))
      clear S c k0 k1 f3 f4 f5
      go_wp2
      go_ret
      exact ⟨ret_bool HV.out, CC.out⟩
 · by_cases c3 : 20 < n
   case pos =>
    have d3 : decide ((20 : Int) < (n : Int)) = true := decide_eq_true (by omega)
    have d4 : decide ((n : Int) > 20) = true := decide_eq_true (by omega)
    have HV := jd (show false = bookB ⟨x0, x1, l⟩ from (Bool.eq_false_iff.2 fun h9 => by have h9 := (bookB_mk x0 x1 l).1 h9; have := HL.out; omega).symm)
    clear hel hcm S c h hl c0 c1
    go_enter Tryz.func30, Tryz.ntmps30
    go_wp2_with (first
     | (go_at_call 33; refine (in_yes x0 0 2000 _ C0.out).mono ?_; rintro e w' ⟨rfl, rfl⟩)
     | (go_at_call 67; refine (TimeOk_yes x1 _ C1.out).mono ?_; rintro e w' ⟨rfl, rfl⟩))
    go_ret
    exact ⟨ret_bool HV.out, C.out⟩
   have d3 : decide ((20 : Int) < (n : Int)) = false := decide_eq_false (by omega)
   have d4 : decide ((n : Int) > 20) = false := decide_eq_false (by omega)
   go_enter Tryz.func30, Tryz.ntmps30
   have f0 := lk S 0 0 rfl rfl
   have f1 := lk S 0 1 rfl rfl
   have f2 := lk S 0 2 rfl rfl
   go_wp2_with (first
    | (go_at_call 33; refine (in_yes x0 0 2000 _ C0.out).mono ?_; rintro e w' ⟨rfl, rfl⟩)
    | (go_at_call 67; refine (TimeOk_yes x1 _ C1.out).mono ?_; rintro e w' ⟨rfl, rfl⟩))
   generalize w.alloc (.cells #[.int .i64 x0, .int .i64 x1, .slice A n cc] 49) = w1 at *
   refine (sEntries_any A n cc B l _ (HH.out.keep (c.mono hB)) (Nat.le_trans hB c.size) hs).mono ?_
   rintro e w2 ⟨rfl, b2⟩
   replace c := c.trans (b2.mono c.size)
   replace S := S.keep b2
   clear b2 f0 f1 f2
   cases hok : entsB l
   case false =>
    have HV := jd (show false = bookB ⟨x0, x1, l⟩ from (Bool.eq_false_iff.2 fun h9 => by have h9 := (bookB_mk x0 x1 l).1 h9; rw [hok] at h9; exact absurd h9.2.2.2.2.1 (by decide)).symm)
    have CC := jd c
    clear hel S c hok c0 c1
    go_wp2
    go_ret
    exact ⟨ret_bool HV.out, CC.out⟩
   case true =>
    have HB := jd (show headB ⟨x0, x1, l⟩ = bookB ⟨x0, x1, l⟩ by
     rw [Bool.eq_iff_iff, bookB_mk]
     have h8 := HX.out
     have h9 := HL.out
     exact ⟨fun h7 => ⟨c0, c1, h8, by omega, hok, h7⟩, fun h7 => h7.2.2.2.2.2⟩)
    clear hok
    have f3 := lk S 0 0 rfl rfl
    have f4 := lk S 0 1 rfl rfl
    have f5 := lk S 0 2 rfl rfl
    by_cases hn0 : n = 0
    case pos =>
     subst hn0
     have hz : decide (((0 : Nat) : Int) = 0) = true := rfl
     have HV := jd (show true = bookB ⟨x0, x1, l⟩ by rw [← HB.out]; unfold headB; rw [decide_eq_true (show l.length = 0 from HL.out)]; rfl)
     clear c0 c1 hel
     go_wp2_with fail
     refine wp_region_cls (fun v => v.cell? ⟨w.heap.size, 0, none⟩ = some (.int .i64 x0) ∧ v.cell? ⟨w.heap.size, 1, none⟩ = some (.int .i64 x1) ∧ v.cell? ⟨w.heap.size, 2, none⟩ = some (.slice A 0 cc)) (by kernel_rfl) (by kernel_rfl) (fun v hv => ⟨cq hv f3, cq hv f4, cq hv f5⟩) ?_
     intro CL HF HC
     repeat
      (first
         | go_big_quiet_skip
         | (go_big_quiet_want
            go_big_quiet_op
            first
             | go_big_quiet_on
             | (apply Exists.intro
                refine ⟨fun v hv => ?_, ?_⟩
                · obtain ⟨a0, a1, a2⟩ := HF v hv
                  first
                   | exact rfl
                   | (go_simp; exact rfl)
                   | (go_simp; exact ⟨rfl, hv⟩)
                go_big_quiet_on)))
     refine wpQuiet_nil ?_
     intro w3 b3
     have CC := jd (c.trans (b3.mono c.size))
     clear S c f3 f4 f5
     go_wp2
     go_ret
     exact ⟨ret_bool HV.out, CC.out⟩
    case neg =>
     obtain ⟨b, off, rfl, hb, hc⟩ := hel (by omega)
     have hjl : 0 < l.length := by have := HL.out; omega
     obtain ⟨hd0, hd1, _⟩ := hc 0 hjl
     simp only [Nat.zero_mul, Nat.add_zero] at hd0 hd1
     have k0 := cu c hd0 (show b < _ by omega)
     have k1 := cu c hd1 (show b < _ by omega)
     obtain ⟨y0, hy0⟩ : ∃ y, y = l[0].idx := ⟨_, rfl⟩
     obtain ⟨y1, hy1⟩ : ∃ y, y = l[0].tm := ⟨_, rfl⟩
     rw [← hy0] at k0
     rw [← hy1] at k1
     have HQ := jd (show (decide (y0 = x0 + 1) && decide (x1 ≤ y1)) = bookB ⟨x0, x1, l⟩ by rw [← HB.out]; unfold headB; rw [decide_eq_false (show ¬ l.length = 0 by omega), egetD hjl, ← hy0, ← hy1, Bool.false_or])
     have ew : IntKind.i64.wrap (x0 + 1) = x0 + 1 := by rw [IntKind.wrap_i64]; omega
     have hz : decide ((n : Int) = 0) = false := decide_eq_false (by omega)
     have hz2 : ((n : Int) == 0) = false := by simp; omega
     have hz3 : ¬ n = 0 := hn0
     have n0 : (0 : Int) < (n : Int) := by omega
     clear hel hc hd0 hd1 hy0 hy1 c0 c1
     go_wp2_with fail
     by_cases q1 : y0 = x0 + 1
     case neg =>
      have e1 : (y0 == x0 + 1) = false := by simpa using q1
      have HV := jd (show false = bookB ⟨x0, x1, l⟩ by rw [← HQ.out, decide_eq_false q1]; rfl)
      refine wp_region_cls (fun v => v.cell? ⟨w.heap.size, 0, none⟩ = some (.int .i64 x0) ∧ v.cell? ⟨w.heap.size, 1, none⟩ = some (.int .i64 x1) ∧ v.cell? ⟨w.heap.size, 2, none⟩ = some (.slice (some ⟨b, off, none⟩) n cc) ∧ v.cell? ⟨b, off, none⟩ = some (.int .i64 y0) ∧ v.cell? ⟨b, off + 1, none⟩ = some (.int .i64 y1)) (by kernel_rfl) (by kernel_rfl) (fun v hv => ⟨cq hv f3, cq hv f4, cq hv f5, cq hv k0, cq hv k1⟩) ?_
      intro CL HF HC
      repeat
       (first
          | go_big_quiet_skip
          | (go_big_quiet_want
             go_big_quiet_op
             first
              | go_big_quiet_on
              | (apply Exists.intro
                 refine ⟨fun v hv => ?_, ?_⟩
                 · obtain ⟨a0, a1, a2, a3, a4⟩ := HF v hv
                   first
                    | exact rfl
                    | (go_simp; exact rfl)
                    | (go_simp; exact ⟨rfl, hv⟩)
                 go_big_quiet_on)))
      refine wpQuiet_nil ?_
      intro w3 b3
      have CC := jd (c.trans (b3.mono c.size))
      clear S c k0 k1 f3 f4 f5
      go_wp2
      go_ret
      exact ⟨ret_bool HV.out, CC.out⟩
     case pos =>
      subst q1
      have e1 : (x0 + 1 == x0 + 1) = true := by simp
      have HV := jd (show decide (x1 ≤ y1) = bookB ⟨x0, x1, l⟩ by rw [← HQ.out, decide_eq_true rfl, Bool.true_and])
      refine wp_region_cls (fun v => v.cell? ⟨w.heap.size, 0, none⟩ = some (.int .i64 x0) ∧ v.cell? ⟨w.heap.size, 1, none⟩ = some (.int .i64 x1) ∧ v.cell? ⟨w.heap.size, 2, none⟩ = some (.slice (some ⟨b, off, none⟩) n cc) ∧ v.cell? ⟨b, off, none⟩ = some (.int .i64 (x0 + 1)) ∧ v.cell? ⟨b, off + 1, none⟩ = some (.int .i64 y1)) (by kernel_rfl) (by kernel_rfl) (fun v hv => ⟨cq hv f3, cq hv f4, cq hv f5, cq hv k0, cq hv k1⟩) ?_
      intro CL HF HC
      repeat
       (first
          | go_big_quiet_skip
          | (go_big_quiet_want
             go_big_quiet_op
             first
              | go_big_quiet_on
              | (apply Exists.intro
                 refine ⟨fun v hv => ?_, ?_⟩
                 · obtain ⟨a0, a1, a2, a3, a4⟩ := HF v hv
                   first
                    | exact rfl
                    | (go_simp; exact rfl)
                    | (go_simp; exact ⟨rfl, hv⟩)
                 go_big_quiet_on)))
      refine wpQuiet_nil ?_
      intro w3 b3
      have CC := jd (c.trans (b3.mono c.size))
      clear S c k0 k1 f3 f4 f5
      go_wp2
      go_ret
      exact ⟨ret_bool HV.out, CC.out⟩
end Go.Proofs.YthjjdelpdiipdaaGreatDoor

/- Parts of my texts: Same RowZ HeadI1 HeadI2. -/
import Derived.Test.YtljnplalnhiidaaK24
namespace Go.Proofs.Ytljnplalnhiidaa
set_option maxRecDepth 100000
set_option linter.unusedVariables false
open Go.RowKit
def sameI (xs ys : List Int) : Bool := decide (xs = ys)
theorem sameI_len {xs ys : List Int} (h : xs.length ≠ ys.length) : sameI xs ys = false := by
 simp only [sameI, decide_eq_false_iff_not]
 intro e; exact h (by rw [e])
theorem sameI_bad {xs ys : List Int} {k : Nat} (h : xs.getD k 0 ≠ ys.getD k 0) : sameI xs ys = false := by
 simp only [sameI, decide_eq_false_iff_not]
 intro e; exact h (by rw [e])
def EqTo (xs ys : List Int) (k : Nat) : Prop := ∀ j, j < k → xs.getD j 0 = ys.getD j 0
theorem EqTo.zero (xs ys : List Int) : EqTo xs ys 0 := fun j hj => absurd hj (by omega)
theorem EqTo.succ {xs ys : List Int} {k : Nat} (h : EqTo xs ys k) (hk : xs.getD k 0 = ys.getD k 0) : EqTo xs ys (k + 1) := by
 intro j hj
 by_cases e : j = k
 · subst e; exact hk
 · exact h j (by omega)
theorem sameI_end {xs ys : List Int} (hl : xs.length = ys.length) (h : EqTo xs ys xs.length) : sameI xs ys = true := by
 simp only [sameI, decide_eq_true_eq]
 apply List.ext_getElem hl
 intro j h1 h2
 have := h j h1
 simpa [List.getD, List.getElem?_eq_getElem h1, List.getElem?_eq_getElem h2] using this
set_option maxHeartbeats 400000 in
theorem iSame_any (A A' : Option Addr) (n m c c' B B' : Nat) (xs ys : List Int) (w : World) (h : IRow w B A n xs) (h' : IRow w B' A' m ys) (hn : n ≤ 1048577) (hm : m ≤ 1048577) :
    Calls Try.prog 46 #[.slice A n c, .slice A' m c'] w fun e w' => e = .returned (.bool (sameI xs ys)) ∧ w = w' := by
 have hl := jd h.1
 have hl' := jd h'.1
 by_cases hnm : n = m
 · subst hnm
   go_enter Try.func46, Try.ntmps46
   go_wp2
   go_loop [14] (fun i => ∃ k : Nat, k ≤ n ∧ i = .int .i64 k ∧ EqTo xs ys k) (fun i => n - (intOf i).toNat)
   case atStart => exact ⟨0, Nat.zero_le _, rfl, EqTo.zero _ _⟩
   case round =>
    obtain ⟨k, hk, rfl, he⟩ := hrel
    by_cases hlt : k < n
    · obtain ⟨b, off, rfl, hb, hc⟩ := h.2 (by omega)
      obtain ⟨b', off', rfl, hb', hc'⟩ := h'.2 (by omega)
      have hcell := hc k hlt
      have hcell' := hc' k hlt
      obtain ⟨x, hx⟩ : ∃ x, x = xs.getD k 0 := ⟨_, rfl⟩
      obtain ⟨y, hy⟩ : ∃ y, y = ys.getD k 0 := ⟨_, rfl⟩
      rw [← hx] at hcell
      rw [← hy] at hcell'
      have HX := jd hx
      have HY := jd hy
      clear hc hc' h h' hx hy
      by_cases hxy : x = y
      · have HE := jd (he.succ (by rw [← HX.out, ← HY.out]; exact hxy))
        subst hxy
        go_wp2
        go_round
        case rel => exact ⟨k + 1, by omega, by go_num, HE.out⟩
        case measure => simp [intOf]; omega
      · have HE := jd (sameI_bad (xs := xs) (ys := ys) (k := k) (by rw [← HX.out, ← HY.out]; exact hxy))
        have hne : (x != y) = true := by simpa using hxy
        clear hxy
        go_wp2
        go_ret
        exact ⟨ret_bool HE.out.symm, rfl⟩
    · go_wp2
      go_ret
      exact ⟨ret_bool (sameI_end (by rw [hl.out, hl'.out]) (by rw [hl.out]; intro j hj; exact he j (by omega))).symm, rfl⟩
 · have HE := jd (sameI_len (xs := xs) (ys := ys) (by rw [hl.out, hl'.out]; exact hnm))
   have hne : ((n : Int) != (m : Int)) = true := by simp; omega
   clear h h'
   go_enter Try.func46, Try.ntmps46
   go_wp2
   go_ret
   exact ⟨ret_bool HE.out.symm, rfl⟩
theorem rdI {w : World} {B : Nat} {xs : List Int} {A : Option Addr} {n c : Nat} (h : Rd w B (rowCells xs) [.slice A n c]) : IRow w B A n xs ∧ n ≤ c ∧ c ≤ maxLen := by
 obtain ⟨_, _, _, e, hi, h1, h2⟩ := h.irow
 injection e with e1 e2 e3
 subst e1 e2 e3
 exact ⟨hi, h1, h2⟩
section
variable (A : Option Addr) (n c : Nat) (xs : List Int) (w : World)
variable (A' : Option Addr) (n' c' : Nat) (ys : List Int) (B B' : Nat)
theorem iSameD (h : Rd w B (rowCells xs) [.slice A n c]) (h' : Rd w B' (rowCells ys) [.slice A' n' c']) (hs : xs.length ≤ 1048577) (hs' : ys.length ≤ 1048577) :
    Calls Try.prog 46 #[.slice A n c, .slice A' n' c'] w fun e w' => e = .returned (.bool (sameI xs ys)) ∧ Below w.heap.size w w' := by
 obtain ⟨hi, _⟩ := rdI h
 obtain ⟨hj, _⟩ := rdI h'
 refine (iSame_any A A' n n' c c' B B' xs ys w hi hj (by rw [← hi.1]; exact hs) (by rw [← hj.1]; exact hs')).mono ?_
 rintro e w1 ⟨rfl, rfl⟩
 exact ⟨rfl, Below.refl _ _⟩
end
set_option maxHeartbeats 3200000 in
theorem iSlotOf_any (x : Int) (w : World) : Calls Try.prog 31 #[.int .i64 x] w fun e w' => e = .returned (.int .i64 (slotOfM x)) ∧ Below w.heap.size w w' := by
 by_cases h : 1 ≤ x ∧ x ≤ 2000
 · have H := jd h
   have ht : x.tmod 20 = x % 20 := Int.tmod_eq_emod_of_nonneg (by omega)
   have hw0 : IntKind.i64.wrap (x % 20) = x % 20 := by rw [IntKind.wrap_i64]; omega
   have hw : IntKind.i64.wrap (2 + x % 20) = 2 + x % 20 := by rw [IntKind.wrap_i64]; omega
   have HV := jd (show slotOfM x = 2 + x % 20 by unfold slotOfM; rw [if_pos ((inB_iff _ _ _).2 h)])
   clear h
   go_enter Try.func31, Try.ntmps31
   go_wp2_with (first | (go_at_call 57; refine (i_isIndex_yes x _ H.out).mono ?_; rintro e w' ⟨rfl, rfl⟩))
   go_ret
   exact ⟨ret_i64 HV.out.symm, Below.refl _ _⟩
 · have H := jd h
   have HV := jd (show slotOfM x = -1 by unfold slotOfM; rw [if_neg fun h9 => h ((inB_iff _ _ _).1 h9)])
   clear h
   go_enter Try.func31, Try.ntmps31
   go_wp2_with (first | (go_at_call 57; refine (i_isIndex_no x _ H.out).mono ?_; rintro e w' ⟨rfl, rfl⟩))
   go_ret
   exact ⟨ret_i64 HV.out.symm, Below.refl _ _⟩
theorem headOkB_mkI (x0 x1 x2 : Int) (l : List MarkM) : headOkB ⟨x0, x1, x2, l⟩ = true ↔ (0 ≤ x1 ∧ x1 ≤ 2000) ∧ (0 ≤ x0 ∧ x0 ≤ x1) ∧ (0 ≤ x2 ∧ x2 ≤ 1000000) ∧ (0 < x1 ∨ x2 = 0) ∧ seenB l = true ∧ lastS l = x1 := headOkB_iff _
set_option maxHeartbeats 12800000 in
theorem iHeadOk_any (x0 x1 x2 : Int) (A : Option Addr) (n cc B : Nat) (l : List MarkM) (w : World) (h : Rd w B [mrkD l] [.slice A n cc]) (hB : B ≤ w.heap.size) (hs : mrkSz l ≤ 1048577) :
    Calls Try.prog 12 #[.agg #[.int .i64 x0, .int .i64 x1, .int .i64 x2, .slice A n cc]] w fun e w' => e = .returned (.bool (headOkB ⟨x0, x1, x2, l⟩)) ∧ Below w.heap.size w w' := by
 have HH := jd h
 clear h
 have S := Sep.nil w w.heap.size
 have c := Below.refl w.heap.size w
 replace S := S.boxAt c.size (w.heap.size) rfl #[.int .i64 x0, .int .i64 x1, .int .i64 x2, .slice A n cc] 29
 replace c := al c S
 have C := jd c
 by_cases c0 : x1 < 0
 case pos =>
  have d0 : decide (x1 < 0) = true := decide_eq_true (by omega)
  have d0' : decide (0 > x1) = true := decide_eq_true (by omega)
  have HV := jd (show false = headOkB ⟨x0, x1, x2, l⟩ from (Bool.eq_false_iff.2 fun h9 => by have h9 := (headOkB_mkI x0 x1 x2 l).1 h9; omega).symm)
  clear S c 
  go_enter Try.func12, Try.ntmps12
  go_wp2
  go_ret
  exact ⟨ret_bool HV.out, C.out⟩
 have d0 : decide (x1 < 0) = false := decide_eq_false (by omega)
 have d0' : decide (0 > x1) = false := decide_eq_false (by omega)
 by_cases c1 : 2000 < x1
 case pos =>
  have d1 : decide (2000 < x1) = true := decide_eq_true (by omega)
  have d1' : decide (x1 > 2000) = true := decide_eq_true (by omega)
  have HV := jd (show false = headOkB ⟨x0, x1, x2, l⟩ from (Bool.eq_false_iff.2 fun h9 => by have h9 := (headOkB_mkI x0 x1 x2 l).1 h9; omega).symm)
  clear S c 
  go_enter Try.func12, Try.ntmps12
  go_wp2
  go_ret
  exact ⟨ret_bool HV.out, C.out⟩
 have d1 : decide (2000 < x1) = false := decide_eq_false (by omega)
 have d1' : decide (x1 > 2000) = false := decide_eq_false (by omega)
 by_cases c2 : x0 < 0
 case pos =>
  have d2 : decide (x0 < 0) = true := decide_eq_true (by omega)
  have d2' : decide (0 > x0) = true := decide_eq_true (by omega)
  have HV := jd (show false = headOkB ⟨x0, x1, x2, l⟩ from (Bool.eq_false_iff.2 fun h9 => by have h9 := (headOkB_mkI x0 x1 x2 l).1 h9; omega).symm)
  clear S c 
  go_enter Try.func12, Try.ntmps12
  go_wp2
  go_ret
  exact ⟨ret_bool HV.out, C.out⟩
 have d2 : decide (x0 < 0) = false := decide_eq_false (by omega)
 have d2' : decide (0 > x0) = false := decide_eq_false (by omega)
 by_cases c3 : x1 < x0
 case pos =>
  have d3 : decide (x1 < x0) = true := decide_eq_true (by omega)
  have d3' : decide (x0 > x1) = true := decide_eq_true (by omega)
  have HV := jd (show false = headOkB ⟨x0, x1, x2, l⟩ from (Bool.eq_false_iff.2 fun h9 => by have h9 := (headOkB_mkI x0 x1 x2 l).1 h9; omega).symm)
  clear S c 
  go_enter Try.func12, Try.ntmps12
  go_wp2
  go_ret
  exact ⟨ret_bool HV.out, C.out⟩
 have d3 : decide (x1 < x0) = false := decide_eq_false (by omega)
 have d3' : decide (x0 > x1) = false := decide_eq_false (by omega)
 have c5 : (0 ≤ x1 ∧ x1 ≤ 2000) ∧ (0 ≤ x0 ∧ x0 ≤ x1) := by omega
 clear c0 c1 c2 c3
 by_cases c1 : 0 ≤ x2 ∧ x2 ≤ 1000000
 case neg =>
  have C1 := jd c1
  have HV := jd (show false = headOkB ⟨x0, x1, x2, l⟩ from (Bool.eq_false_iff.2 fun h9 => by have h9 := (headOkB_mkI x0 x1 x2 l).1 h9; omega).symm)
  clear S c c5 c1
  go_enter Try.func12, Try.ntmps12
  go_wp2_with (go_at_call 38; refine (i_TimeOk_no x2 _ C1.out).mono ?_; rintro e w' ⟨rfl, rfl⟩)
  go_ret
  exact ⟨ret_bool HV.out, C.out⟩
 have C1 := jd c1
 by_cases c2 : x1 = 0 ∧ x2 ≠ 0
 case pos =>
  have e2 : (x2 == 0) = false := by simpa using c2.2
  have e3 : (x2 != 0) = true := by simpa using c2.2
  have e4 : (x1 == 0) = true := by simpa using c2.1
  have HV := jd (show false = headOkB ⟨x0, x1, x2, l⟩ from (Bool.eq_false_iff.2 fun h9 => by have h9 := (headOkB_mkI x0 x1 x2 l).1 h9; omega).symm)
  clear S c c5 c1 c2
  go_enter Try.func12, Try.ntmps12
  go_wp2_with (go_at_call 38; refine (i_TimeOk_yes x2 _ C1.out).mono ?_; rintro e w' ⟨rfl, rfl⟩)
  go_ret
  exact ⟨ret_bool HV.out, C.out⟩
 have HX := jd (show 0 < x1 ∨ x2 = 0 by omega)
 have HG : ∃ g0 g1 : Bool, (x1 == 0) = g0 ∧ (x2 != 0) = g1 ∧ (g0 && g1) = false := ⟨_, _, rfl, rfl, by rw [Bool.eq_false_iff]; intro h9; simp only [Bool.and_eq_true, beq_iff_eq, bne_iff_ne] at h9; omega⟩
 obtain ⟨g0, g1, hg0, hg1, hgg⟩ := HG
 have hgs : (g0 = false) ∨ (g0 = true ∧ g1 = false) := by cases g0 <;> cases g1 <;> simp_all
 have C5 := jd c5
 clear c2 hgg c1 c5
 rcases hgs with rfl | ⟨rfl, rfl⟩
 · go_enter Try.func12, Try.ntmps12
   have f0 := lk S 0 0 rfl rfl
   have f1 := lk S 0 1 rfl rfl
   have f2 := lk S 0 2 rfl rfl
   have f3 := lk S 0 3 rfl rfl
   go_wp2_with (go_at_call 38; refine (i_TimeOk_yes x2 _ C1.out).mono ?_; rintro e w' ⟨rfl, rfl⟩)
   generalize w.alloc (.cells #[.int .i64 x0, .int .i64 x1, .int .i64 x2, .slice A n cc] 29) = w1 at *
   have hrd := HH.out.keep (c.mono hB)
   have hbs := Nat.le_trans hB c.size
   cases c4 : seenB l
   case false =>
    have HV := jd (show false = headOkB ⟨x0, x1, x2, l⟩ from (Bool.eq_false_iff.2 fun h9 => by have h9 := (headOkB_mkI x0 x1 x2 l).1 h9; rw [h9.2.2.2.2.1] at c4; cases c4).symm)
    refine wp_region_cls (fun v => v.cell? ⟨w.heap.size, 0, none⟩ = some (.int .i64 x0) ∧ v.cell? ⟨w.heap.size, 1, none⟩ = some (.int .i64 x1) ∧ v.cell? ⟨w.heap.size, 2, none⟩ = some (.int .i64 x2) ∧ v.cell? ⟨w.heap.size, 3, none⟩ = some (.slice A n cc) ∧ Rd v B [mrkD l] [.slice A n cc] ∧ B ≤ v.heap.size) (by kernel_rfl) (by kernel_rfl) (fun v hv => ⟨cq hv f0, cq hv f1, cq hv f2, cq hv f3, hrd.keep (hv.mono hbs), Nat.le_trans hbs hv.size⟩) ?_
    intro CL HF HC
    repeat
     (first
        | go_big_quiet_skip
        | (go_big_quiet_want
           go_big_quiet_op
           first
            | go_big_quiet_on
            | (apply Exists.intro
               refine ⟨fun v hv => ?_, ?_⟩
               · obtain ⟨a0, a1, a2, a3, a4, a5⟩ := HF v hv
                 first
                  | (go_at_call 39; exact Calls.cls HC hv (iSeen_any A n cc B l v a4 a5 hs) (congrArg Value.bool c4))
                  | exact rfl
                  | (go_simp; exact rfl)
                  | (go_simp; exact ⟨rfl, hv⟩)
               go_big_quiet_on)))
    refine wpQuiet_nil ?_
    intro w3 b3
    have CC := jd (c.trans (b3.mono c.size))
    clear S c hrd hbs b3 f0 f1 f2 f3
    go_wp2
    go_ret
    exact ⟨ret_bool HV.out, CC.out⟩
   case true =>
    obtain ⟨g5, hg5⟩ : ∃ g, (lastS l == x1) = g := ⟨_, rfl⟩
    have HV := jd (show g5 = headOkB ⟨x0, x1, x2, l⟩ by
     rw [Bool.eq_iff_iff, headOkB_mkI, ← hg5, beq_iff_eq]
     exact ⟨fun h9 => ⟨C5.out.1, C5.out.2, C1.out, HX.out, c4, h9⟩, fun h9 => h9.2.2.2.2.2⟩)
    refine wp_region_cls (fun v => v.cell? ⟨w.heap.size, 0, none⟩ = some (.int .i64 x0) ∧ v.cell? ⟨w.heap.size, 1, none⟩ = some (.int .i64 x1) ∧ v.cell? ⟨w.heap.size, 2, none⟩ = some (.int .i64 x2) ∧ v.cell? ⟨w.heap.size, 3, none⟩ = some (.slice A n cc) ∧ Rd v B [mrkD l] [.slice A n cc] ∧ B ≤ v.heap.size) (by kernel_rfl) (by kernel_rfl) (fun v hv => ⟨cq hv f0, cq hv f1, cq hv f2, cq hv f3, hrd.keep (hv.mono hbs), Nat.le_trans hbs hv.size⟩) ?_
    intro CL HF HC
    repeat
     (first
        | go_big_quiet_skip
        | (go_big_quiet_want
           go_big_quiet_op
           first
            | go_big_quiet_on
            | (apply Exists.intro
               refine ⟨fun v hv => ?_, ?_⟩
               · obtain ⟨a0, a1, a2, a3, a4, a5⟩ := HF v hv
                 first
                  | (go_at_call 39; exact Calls.cls HC hv (iSeen_any A n cc B l v a4 a5 hs) (congrArg Value.bool c4))
                  | (go_at_call 40; exact Calls.cls HC hv (iLastSeen_any A n cc B l v a4 a5 hs) rfl)
                  | exact rfl
                  | (go_simp; exact rfl)
                  | (go_simp; exact ⟨rfl, hv⟩)
               go_big_quiet_on)))
    refine wpQuiet_nil ?_
    intro w3 b3
    have CC := jd (c.trans (b3.mono c.size))
    clear S c hrd hbs b3 f0 f1 f2 f3
    go_wp2
    go_ret
    exact ⟨ret_bool HV.out, CC.out⟩
 · go_enter Try.func12, Try.ntmps12
   have f0 := lk S 0 0 rfl rfl
   have f1 := lk S 0 1 rfl rfl
   have f2 := lk S 0 2 rfl rfl
   have f3 := lk S 0 3 rfl rfl
   go_wp2_with (go_at_call 38; refine (i_TimeOk_yes x2 _ C1.out).mono ?_; rintro e w' ⟨rfl, rfl⟩)
   generalize w.alloc (.cells #[.int .i64 x0, .int .i64 x1, .int .i64 x2, .slice A n cc] 29) = w1 at *
   have hrd := HH.out.keep (c.mono hB)
   have hbs := Nat.le_trans hB c.size
   cases c4 : seenB l
   case false =>
    have HV := jd (show false = headOkB ⟨x0, x1, x2, l⟩ from (Bool.eq_false_iff.2 fun h9 => by have h9 := (headOkB_mkI x0 x1 x2 l).1 h9; rw [h9.2.2.2.2.1] at c4; cases c4).symm)
    refine wp_region_cls (fun v => v.cell? ⟨w.heap.size, 0, none⟩ = some (.int .i64 x0) ∧ v.cell? ⟨w.heap.size, 1, none⟩ = some (.int .i64 x1) ∧ v.cell? ⟨w.heap.size, 2, none⟩ = some (.int .i64 x2) ∧ v.cell? ⟨w.heap.size, 3, none⟩ = some (.slice A n cc) ∧ Rd v B [mrkD l] [.slice A n cc] ∧ B ≤ v.heap.size) (by kernel_rfl) (by kernel_rfl) (fun v hv => ⟨cq hv f0, cq hv f1, cq hv f2, cq hv f3, hrd.keep (hv.mono hbs), Nat.le_trans hbs hv.size⟩) ?_
    intro CL HF HC
    repeat
     (first
        | go_big_quiet_skip
        | (go_big_quiet_want
           go_big_quiet_op
           first
            | go_big_quiet_on
            | (apply Exists.intro
               refine ⟨fun v hv => ?_, ?_⟩
               · obtain ⟨a0, a1, a2, a3, a4, a5⟩ := HF v hv
                 first
                  | (go_at_call 39; exact Calls.cls HC hv (iSeen_any A n cc B l v a4 a5 hs) (congrArg Value.bool c4))
                  | exact rfl
                  | (go_simp; exact rfl)
                  | (go_simp; exact ⟨rfl, hv⟩)
               go_big_quiet_on)))
    refine wpQuiet_nil ?_
    intro w3 b3
    have CC := jd (c.trans (b3.mono c.size))
    clear S c hrd hbs b3 f0 f1 f2 f3
    go_wp2
    go_ret
    exact ⟨ret_bool HV.out, CC.out⟩
   case true =>
    obtain ⟨g5, hg5⟩ : ∃ g, (lastS l == x1) = g := ⟨_, rfl⟩
    have HV := jd (show g5 = headOkB ⟨x0, x1, x2, l⟩ by
     rw [Bool.eq_iff_iff, headOkB_mkI, ← hg5, beq_iff_eq]
     exact ⟨fun h9 => ⟨C5.out.1, C5.out.2, C1.out, HX.out, c4, h9⟩, fun h9 => h9.2.2.2.2.2⟩)
    refine wp_region_cls (fun v => v.cell? ⟨w.heap.size, 0, none⟩ = some (.int .i64 x0) ∧ v.cell? ⟨w.heap.size, 1, none⟩ = some (.int .i64 x1) ∧ v.cell? ⟨w.heap.size, 2, none⟩ = some (.int .i64 x2) ∧ v.cell? ⟨w.heap.size, 3, none⟩ = some (.slice A n cc) ∧ Rd v B [mrkD l] [.slice A n cc] ∧ B ≤ v.heap.size) (by kernel_rfl) (by kernel_rfl) (fun v hv => ⟨cq hv f0, cq hv f1, cq hv f2, cq hv f3, hrd.keep (hv.mono hbs), Nat.le_trans hbs hv.size⟩) ?_
    intro CL HF HC
    repeat
     (first
        | go_big_quiet_skip
        | (go_big_quiet_want
           go_big_quiet_op
           first
            | go_big_quiet_on
            | (apply Exists.intro
               refine ⟨fun v hv => ?_, ?_⟩
               · obtain ⟨a0, a1, a2, a3, a4, a5⟩ := HF v hv
                 first
                  | (go_at_call 39; exact Calls.cls HC hv (iSeen_any A n cc B l v a4 a5 hs) (congrArg Value.bool c4))
                  | (go_at_call 40; exact Calls.cls HC hv (iLastSeen_any A n cc B l v a4 a5 hs) rfl)
                  | exact rfl
                  | (go_simp; exact rfl)
                  | (go_simp; exact ⟨rfl, hv⟩)
               go_big_quiet_on)))
    refine wpQuiet_nil ?_
    intro w3 b3
    have CC := jd (c.trans (b3.mono c.size))
    clear S c hrd hbs b3 f0 f1 f2 f3
    go_wp2
    go_ret
    exact ⟨ret_bool HV.out, CC.out⟩
end Go.Proofs.Ytljnplalnhiidaa

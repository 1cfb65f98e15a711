/- Parts of my texts: MarkS3. -/
import Derived.Test.YthjjdelpdiipdaaGreatDoorMX19
namespace Go.Proofs.YthjjdelpdiipdaaGreatDoor
set_option maxRecDepth 100000
set_option linter.unusedVariables false
open Go.RowKit
set_option maxHeartbeats 6400000 in
theorem sMarkOf_any (A : Option Addr) (n cc B : Nat) (l : List MarkM) (q : Int) (w : World) (h : Rd w B [mrkD l] [.slice A n cc]) (hB : B ≤ w.heap.size) (hs : mrkSz l ≤ 1048577) :
    Calls Tryz.prog 149 #[.slice A n cc, .int .i64 q] w fun e w' => e = .returned (.agg #[.int .i64 (markOf l q).mc, .int .i64 (markOf l q).ms, .int .i64 (markOf l q).mi]) ∧ Below w.heap.size w w' := by
 have HH := jd h
 obtain ⟨_, _, _, e, hl, _, _, hel⟩ := h.mrks
 injection e with e1 e2 e3
 subst e1 e2 e3
 have HL := jd hl
 have hn : n ≤ 1048577 := by unfold mrkSz at hs; omega
 clear h hl
 have S := Sep.nil w w.heap.size
 have c := Below.refl w.heap.size w
 replace S := S.boxAt c.size (w.heap.size) rfl #[.int .i64 0, .int .i64 0, .int .i64 0] 114
 replace c := al c S
 go_enter Tryz.func149, Tryz.ntmps149
 go_wp2_with fail
 generalize w.alloc (.cells #[.int .i64 0, .int .i64 0, .int .i64 0] 114) = w1 at *
 refine (sSeen_any A n cc B l _ (HH.out.keep (c.mono hB)) (Nat.le_trans hB c.size) hs).mono ?_
 rintro e w2 ⟨rfl, b2⟩
 replace c := c.trans (b2.mono c.size)
 replace S := S.keep b2
 clear b2
 cases hok : seenB l
 case false =>
  have HV := jd (show markOf l q = mark0 by unfold markOf; rw [hok]; rfl)
  clear hok hel
  have f0 := lk S 0 0 rfl rfl
  have f1 := (S.at_ 0 rfl).free 0
  have f2 := lk S 0 1 rfl rfl
  have f3 := (S.at_ 0 rfl).free 1
  have f4 := lk S 0 2 rfl rfl
  have f5 := (S.at_ 0 rfl).free 2
  replace S := S.put 0 rfl 0 (.int .i64 0)
  replace c := st c S (by omega)
  replace S := S.put 0 rfl 1 (.int .i64 0)
  replace c := st c S (by omega)
  replace S := S.put 0 rfl 2 (.int .i64 0)
  replace c := st c S (by omega)
  have r0 := jd ((S.at_ 0 rfl).cell 0)
  have r1 := jd ((S.at_ 0 rfl).cell 1)
  have r2 := jd ((S.at_ 0 rfl).cell 2)
  have CC := jd c
  clear S c
  go_wp2
  exact bodyPost_ret (v := .agg #[.int .i64 0, .int .i64 0, .int .i64 0]) (by simp [results, Tryz.results149, go_sem, r0.out, r1.out, r2.out]) rfl ⟨by first | (rw [HV.out]; done) | (rw [HV.out]; rfl), CC.out⟩
 case true =>
  have HM := jd (show markOf l q = findM l q by unfold markOf; rw [if_pos hok])
  have S0 := jd S
  have B0 := jd c
  clear S c hok
  go_wp2
  go_loopw [5] (fun i wr => ∃ j : Nat, j ≤ n ∧ i = .int .i64 (j : Int) ∧ noneTo l q j ∧ Sep wr w.heap.size [.blk w.heap.size #[.int .i64 0, .int .i64 0, .int .i64 0] 114] ∧ Below w.heap.size w wr) (fun i _ => n - (intOf i).toNat)
  case atStart => exact ⟨0, Nat.zero_le _, rfl, fun p hp => absurd hp (by omega), S0.out, B0.out⟩
  case round =>
   obtain ⟨j, hj, rfl, hnone, S, c⟩ := hrel
   clear S0 B0
   by_cases hlt : j < n
   case neg =>
    have HV := jd (show markOf l q = mark0 by rw [HM.out]; exact findM_none (by have := HL.out; rwa [show l.length = j by omega]))
    clear hnone hel
    have f0 := lk S 0 0 rfl rfl
    have f1 := (S.at_ 0 rfl).free 0
    have f2 := lk S 0 1 rfl rfl
    have f3 := (S.at_ 0 rfl).free 1
    have f4 := lk S 0 2 rfl rfl
    have f5 := (S.at_ 0 rfl).free 2
    replace S := S.put 0 rfl 0 (.int .i64 0)
    replace c := st c S (by omega)
    replace S := S.put 0 rfl 1 (.int .i64 0)
    replace c := st c S (by omega)
    replace S := S.put 0 rfl 2 (.int .i64 0)
    replace c := st c S (by omega)
    have r0 := jd ((S.at_ 0 rfl).cell 0)
    have r1 := jd ((S.at_ 0 rfl).cell 1)
    have r2 := jd ((S.at_ 0 rfl).cell 2)
    have CC := jd c
    clear S c
    go_wp2
    exact bodyPost_ret (v := .agg #[.int .i64 0, .int .i64 0, .int .i64 0]) (by simp [results, Tryz.results149, go_sem, r0.out, r1.out, r2.out]) rfl ⟨by first | (rw [HV.out]; done) | (rw [HV.out]; rfl), CC.out⟩
   case pos =>
    have hjl : j < l.length := by have := HL.out; omega
    obtain ⟨b, off, rfl, hb, hc⟩ := hel (by omega)
    obtain ⟨hc0, hc1, hc2⟩ := hc j hjl
    have cs0 := cu c hc0 (show b < _ by omega)
    obtain ⟨x0, hx0⟩ : ∃ p, p = l[j].mc := ⟨_, rfl⟩
    rw [← hx0] at cs0
    have cs1 := cu c hc1 (show b < _ by omega)
    obtain ⟨x1, hx1⟩ : ∃ p, p = l[j].ms := ⟨_, rfl⟩
    rw [← hx1] at cs1
    have cs2 := cu c hc2 (show b < _ by omega)
    obtain ⟨x2, hx2⟩ : ∃ p, p = l[j].mi := ⟨_, rfl⟩
    rw [← hx2] at cs2
    have hmk : l[j] = ⟨x0, x1, x2⟩ := by rw [hx0, hx1, hx2]
    have HMK := jd hmk
    have HJ := jd hjl
    have HNO := jd hnone
    have j0 : (0 : Int) ≤ (j : Int) := by omega
    have j1 : (j : Int) < (n : Int) := by omega
    clear hmk hc hc0 hc1 hc2 hel hnone hx0 hx1 hx2
    by_cases hq : x0 = q
    case neg =>
     have e1 : (x0 == q) = false := by simpa using hq
     have HN := jd (show noneTo l q (j + 1) from fun p hp => by
      rcases Nat.lt_or_ge p j with h1 | h1
      · exact HNO.out p h1
      · obtain rfl : p = j := by omega
        rw [mgetD HJ.out, HMK.out]
        exact hq)
     have SS := jd S
     have CC := jd c
     clear S c hq cs1 cs2
     go_wp2
     go_roundw
     case rel => exact ⟨j + 1, by omega, by go_num, HN.out, SS.out, CC.out⟩
     case measure => simp [intOf]; omega
    case pos =>
     have e1 : (x0 == q) = true := by simpa using hq
     have HV := jd (show markOf l q = ⟨x0, x1, x2⟩ by rw [HM.out, findM_at HJ.out HNO.out (by rw [HMK.out]; exact hq), HMK.out])
     clear hq
     have f0 := lk S 0 0 rfl rfl
     have f1 := (S.at_ 0 rfl).free 0
     have f2 := lk S 0 1 rfl rfl
     have f3 := (S.at_ 0 rfl).free 1
     have f4 := lk S 0 2 rfl rfl
     have f5 := (S.at_ 0 rfl).free 2
     replace S := S.put 0 rfl 0 (.int .i64 x0)
     replace c := st c S (by omega)
     replace S := S.put 0 rfl 1 (.int .i64 x1)
     replace c := st c S (by omega)
     replace S := S.put 0 rfl 2 (.int .i64 x2)
     replace c := st c S (by omega)
     have r0 := jd ((S.at_ 0 rfl).cell 0)
     have r1 := jd ((S.at_ 0 rfl).cell 1)
     have r2 := jd ((S.at_ 0 rfl).cell 2)
     have CC := jd c
     clear S c
     go_wp2
     exact bodyPost_ret (v := .agg #[.int .i64 x0, .int .i64 x1, .int .i64 x2]) (by simp [results, Tryz.results149, go_sem, r0.out, r1.out, r2.out]) rfl ⟨by first | (rw [HV.out]; done) | (rw [HV.out]; rfl), CC.out⟩
theorem max_at (x y : Int) (w : World) : Calls Tryz.prog 109 #[.int .i64 x, .int .i64 y] w fun e w' => e = .returned (.int .i64 (max x y)) ∧ w = w' := by
 by_cases h : x > y
 · have h1 : decide (x > y) = true := decide_eq_true h
   have HV := jd (show max x y = x by omega)
   go_enter Tryz.func109, Tryz.ntmps109
   go_wp2
   all_goals
    go_ret
    exact ⟨ret_i64 HV.out.symm, rfl⟩
 · have h1 : decide (x > y) = false := decide_eq_false h
   have HV := jd (show max x y = y by omega)
   go_enter Tryz.func109, Tryz.ntmps109
   go_wp2
   all_goals
    go_ret
    exact ⟨ret_i64 HV.out.symm, rfl⟩
set_option maxHeartbeats 3200000 in
theorem sLastS_any (A : Option Addr) (n cc B : Nat) (l : List MarkM) (w : World) (h : Rd w B [mrkD l] [.slice A n cc]) (hB : B ≤ w.heap.size) (hs : mrkSz l ≤ 1048577) :
    Calls Tryz.prog 69 #[.slice A n cc] w fun e w' => e = .returned (.int .i64 (lastS l)) ∧ Below w.heap.size w w' := by
 have HH := jd h
 obtain ⟨_, _, _, e, hl, _, _, hel⟩ := h.mrks
 injection e with e1 e2 e3
 subst e1 e2 e3
 have HL := jd hl
 have hn : n ≤ 1048577 := by unfold mrkSz at hs; omega
 clear h hl
 go_enter Tryz.func69, Tryz.ntmps69
 go_wp2_with fail
 refine (sSeen_any A n cc B l _ HH.out hB hs).mono ?_
 rintro e w1 ⟨rfl, b1⟩
 have B0 := jd b1
 cases hok : seenB l
 case false =>
  have HV := jd (show lastS l = 0 by unfold lastS; rw [hok]; rfl)
  clear hok hel b1
  go_wp2
  go_ret
  exact ⟨ret_i64 HV.out.symm, B0.out⟩
 case true =>
  have HM := jd (show lastS l = maxTo l l.length by unfold lastS; rw [if_pos hok])
  have HZ := jd (maxTo_zero l)
  clear hok b1
  go_wp2
  go_loopw [3, 4] (fun x i wr => ∃ j : Nat, j ≤ n ∧ i = .int .i64 (j : Int) ∧ x = .int .i64 (maxTo l j) ∧ Below w.heap.size w wr) (fun _ i _ => n - (intOf i).toNat)
  case atStart => exact ⟨0, Nat.zero_le _, rfl, by rw [HZ.out], B0.out⟩
  case round =>
   obtain ⟨j, hj, rfl, rfl, c⟩ := hrel
   by_cases hlt : j < n
   case neg =>
    have HV := jd (show lastS l = maxTo l j by rw [HM.out]; have := HL.out; congr 1; omega)
    have CC := jd c
    clear c hel
    go_wp2
    go_ret
    exact ⟨ret_i64 HV.out.symm, CC.out⟩
   case pos =>
    have hjl : j < l.length := by have := HL.out; omega
    obtain ⟨b, off, rfl, hb, hc⟩ := hel (by omega)
    obtain ⟨_, _, hc2⟩ := hc j hjl
    have cs2 := cu c hc2 (show b < _ by omega)
    obtain ⟨y, hy⟩ : ∃ p, p = l[j].mi := ⟨_, rfl⟩
    rw [← hy] at cs2
    have HN := jd (show maxTo l (j + 1) = max (maxTo l j) y by rw [maxTo_step hjl, hy])
    have CC := jd c
    clear hel hc hc2 hy c
    generalize maxTo l j = mx at *
    go_wp2_with (first | (go_at_call 109; refine (max_at mx y _).mono ?_; rintro e w' ⟨rfl, rfl⟩))
    go_roundw
    case rel => exact ⟨j + 1, by omega, by go_num, by rw [HN.out], CC.out⟩
    case measure => simp [intOf]; omega
set_option maxHeartbeats 3200000 in
theorem sFresh_any (A : Option Addr) (n cc B : Nat) (l : List MarkM) (q s : Int) (w : World) (h : Rd w B [mrkD l] [.slice A n cc]) (hB : B ≤ w.heap.size) (hs : mrkSz l ≤ 1048577) :
    Calls Tryz.prog 111 #[.slice A n cc, .int .i64 q, .int .i64 s] w fun e w' => e = .returned (.bool (freshB l q s)) ∧ Below w.heap.size w w' := by
 have HH := jd h
 clear h
 have hfd : ∀ (m0 m1 m2 : Int) (w9 : World), (Instr.field 114 (.agg #[.int .i64 m0, .int .i64 m1, .int .i64 m2]) 1).run Tryz.prog w9 = .ok (.int .i64 m1) w9 := fun _ _ _ _ => by kernel_rfl
 go_enter Tryz.func111, Tryz.ntmps111
 go_wp2_with fail
 refine (sSeen_any A n cc B l _ HH.out hB hs).mono ?_
 rintro e w1 ⟨rfl, b1⟩
 cases hok : seenB l
 case false =>
  have HV := jd (show false = freshB l q s by unfold freshB; rw [hok]; rfl)
  have CC := jd b1
  clear hok b1
  go_wp2
  go_ret
  exact ⟨ret_bool HV.out, CC.out⟩
 case true =>
  have HO := jd hok
  clear hok
  go_wp2_with fail
  refine (sAsker_any q _).mono ?_
  rintro e w2 ⟨rfl, b2⟩
  have c2 := b1.trans (b2.mono b1.size)
  cases ha : askB q
  case false =>
   have HV := jd (show false = freshB l q s by unfold freshB; rw [HO.out, ha]; rfl)
   have CC := jd c2
   clear ha b1 b2 c2
   go_wp2
   go_ret
   exact ⟨ret_bool HV.out, CC.out⟩
  case true =>
   have HQ := jd ha
   clear ha b2
   go_wp2_with fail
   refine (seq_at s _).mono ?_
   rintro e w3 ⟨rfl, b3⟩
   have c3 := c2.trans (b3.mono c2.size)
   cases hs9 : inB s 1 2000
   case false =>
    have HV := jd (show false = freshB l q s by unfold freshB; rw [HO.out, HQ.out, hs9]; rfl)
    have CC := jd c3
    clear hs9 b1 b3 c2 c3
    go_wp2
    go_ret
    exact ⟨ret_bool HV.out, CC.out⟩
   case true =>
    have HS9 := jd hs9
    clear hs9 b3
    go_wp2_with fail
    refine (sMarkOf_any A n cc B l q _ (HH.out.keep (c3.mono hB)) (Nat.le_trans hB c3.size) hs).mono ?_
    rintro e w4 ⟨rfl, b4⟩
    have CC := jd (c3.trans (b4.mono c3.size))
    have HV := jd (show decide ((markOf l q).ms < s) = freshB l q s by unfold freshB; rw [HO.out, HQ.out, HS9.out, Bool.true_and, Bool.true_and, Bool.true_and])
    clear b1 b4 c2 c3
    generalize markOf l q = mk at *
    go_wp2
    go_ret
    exact ⟨ret_bool (by first | exact HV.out | (rw [← HV.out]; rfl)), CC.out⟩
end Go.Proofs.YthjjdelpdiipdaaGreatDoor

/- Parts of my texts: HeadI7. -/
import Derived.Test.YtmjifhjhialcbaaT39
import Derived.Test.YtmjifhjhialcbaaT40
namespace Go.Proofs.Ytmjifhjhialcbaa
set_option maxRecDepth 100000
set_option linter.unusedVariables false
open Go.RowKit
theorem iRowHead_at (A : Option Addr) (n cc B : Nat) (d : List Int) (w : World) (h : Rd w B (rowCells d) [.slice A n cc]) (hB : B ≤ w.heap.size) :
    Calls Try.prog 21 #[.slice A n cc] w fun e w' => ∃ (z0 z1 z2 : Int) (lz : List MarkM) (ob : Bool) (A2 : Option Addr) (n2 c2 : Nat), rowHeadM d = (⟨z0, z1, z2, lz⟩, ob) ∧ e = .returned (.tuple #[.agg #[.int .i64 z0, .int .i64 z1, .int .i64 z2, .slice A2 n2 c2], .bool ob]) ∧ Has w' w.heap.size [mrkD lz] [.slice A2 n2 c2] ∧ Below w.heap.size w w' := by
 refine (iRowHead_any A n cc B d w h hB).mono ?_
 rintro e w' ⟨z0, z1, z2, A2, n2, c2, rfl, o, b⟩
 obtain ⟨e0, e1, e2, o3⟩ := o.headT
 injection e0 with _ e0
 injection e1 with _ e1
 injection e2 with _ e2
 exact ⟨(rowHeadM d).1.num, (rowHeadM d).1.base, (rowHeadM d).1.tm, (rowHeadM d).1.seen, (rowHeadM d).2, A2, n2, c2, rfl, by rw [e0, e1, e2], o3, b⟩
set_option maxHeartbeats 12800000 in
theorem iHeadFrom_any (q : Nat) (Aa0 : Option Addr) (na0 ca0 : Nat) (Aa1 : Option Addr) (na1 ca1 : Nat) (Aa2 : Option Addr) (na2 ca2 : Nat) (Aa3 : Option Addr) (na3 ca3 : Nat) (t : TwoM) (w : World) (hq : Blk w q #[.slice Aa0 na0 ca0, .slice Aa1 na1 ca1, .slice Aa2 na2 ca2, .slice Aa3 na3 ca3] 60) (h : Rd w w.heap.size t.cells [.slice Aa0 na0 ca0, .slice Aa1 na1 ca1, .slice Aa2 na2 ca2, .slice Aa3 na3 ca3]) (hs : t.sz ≤ 1048576) :
    Calls Try.prog 56 #[.func (.func 76) #[] #[.pointer (some ⟨q, 0, none⟩)]] w fun e w' => ∃ (z0 z1 z2 : Int) (A2 : Option Addr) (n2 c2 : Nat), e = .returned (.tuple #[.agg #[.int .i64 z0, .int .i64 z1, .int .i64 z2, .slice A2 n2 c2], .bool (headTo t 2).2]) ∧ Has w' w.heap.size (headTo t 2).1.cells [.int .i64 z0, .int .i64 z1, .int .i64 z2, .slice A2 n2 c2] ∧ Below w.heap.size w w' := by
 have HH := jd h
 have HQB := jd hq
 have HQL := jd hq.lt
 clear h hq
 have S := Sep.nil w w.heap.size
 have c := Below.refl w.heap.size w
 replace S := S.boxAt c.size (w.heap.size) rfl #[.int .i64 0, .int .i64 0, .int .i64 0, .slice none 0 0] 40
 replace c := al c S
 replace S := S.boxAt c.size (w.heap.size + 1) (by simp) #[.int .i64 0, .int .i64 0, .int .i64 0, .slice none 0 0] 40
 replace c := al c S
 go_enter Try.func56, Try.ntmps56
 replace S := S.own0 (ow_nil_mrksH _)
 have S0 := jd S
 have B0 := jd c
 clear S c
 go_wp2
 go_loopw [5, 12] (fun sv k wr => ∃ (j : Nat) (x0 x1 x2 : Int) (l : List MarkM) (sm : Bool) (G : Option Addr) (m gc : Nat) (fp : List Nat), j ≤ 2 ∧ k = .int .i64 (j : Int) ∧ ((⟨x0, x1, x2, l⟩, sm) : HeadM × Bool) = headTo t j ∧ sv = .bool sm ∧ Sep wr w.heap.size [.own [mrkD l] [.slice G m gc] fp, .blk (w.heap.size + 1) #[.int .i64 x0, .int .i64 x1, .int .i64 x2, .slice G m gc] 40, .blk w.heap.size #[.int .i64 0, .int .i64 0, .int .i64 0, .slice none 0 0] 40] ∧ Below w.heap.size w wr) (fun _ k _ => 2 - (intOf k).toNat)
 case atStart => exact ⟨0, 0, 0, 0, [], false, none, 0, 0, [], Nat.zero_le _, rfl, rfl, rfl, S0.out, B0.out⟩
 case round =>
  obtain ⟨j, x0, x1, x2, l, sm, G, m, gc, fp, hj, rfl, hs9, rfl, S, c⟩ := hrel
  clear S0 B0
  by_cases hlt : j < 2
  case neg =>
   obtain rfl : j = 2 := by omega
   have HV := jd hs9.symm
   clear hs9 hj hlt
   have f0 := lk S 1 0 rfl rfl
   have f1 := lk S 1 1 rfl rfl
   have f2 := lk S 1 2 rfl rfl
   have f3 := lk S 1 3 rfl rfl
   have f4 := lk S 2 0 rfl rfl
   have f5 := (S.at_ 2 rfl).free 0
   have f6 := lk S 2 1 rfl rfl
   have f7 := (S.at_ 2 rfl).free 1
   have f8 := lk S 2 2 rfl rfl
   have f9 := (S.at_ 2 rfl).free 2
   have f10 := lk S 2 3 rfl rfl
   have f11 := (S.at_ 2 rfl).free 3
   replace S := S.put 2 rfl 0 (.int .i64 x0)
   replace c := st c S (by omega)
   replace S := S.put 2 rfl 1 (.int .i64 x1)
   replace c := st c S (by omega)
   replace S := S.put 2 rfl 2 (.int .i64 x2)
   replace c := st c S (by omega)
   replace S := S.put 2 rfl 3 (.slice G m gc)
   replace c := st c S (by omega)
   have H := jd (Has.int (n := x0) (Has.int (n := x1) (Has.int (n := x2) S.first)))
   have r0 := jd ((S.at_ 2 rfl).cell 0)
   have r1 := jd ((S.at_ 2 rfl).cell 1)
   have r2 := jd ((S.at_ 2 rfl).cell 2)
   have r3 := jd ((S.at_ 2 rfl).cell 3)
   have CC := jd c
   clear S c
   go_wp2
   exact bodyPost_ret (v := .tuple #[.agg #[.int .i64 x0, .int .i64 x1, .int .i64 x2, .slice G m gc], .bool sm]) (by simp [results, Try.results56, go_sem, r0.out, r1.out, r2.out, r3.out]) rfl ⟨_, _, _, _, _, _, by rw [HV.out], by rw [HV.out]; exact H.out, CC.out⟩
  case pos =>
   have HLT := jd hlt
   have hdn := jd (show decide ((j : Int) < 2) = true from decide_eq_true (by omega))
   have HS9 := jd hs9
   clear hs9 hj
   go_wp2_with fail
   refine (iReader_any q Aa0 na0 ca0 Aa1 na1 ca1 Aa2 na2 ca2 Aa3 na3 ca3 t (j : Int) _ (HQB.out.keep c HQL.out) ((HH.out.keep c).up c.size) hs).mono ?_
   rintro e w1 ⟨Ar, nr, cr, rfl, o, b⟩
   obtain ⟨fp_ro, S'⟩ := S.has b o c.size
   replace c := c.trans (b.mono c.size)
   clear S; have S := S'; clear S' o b
   have HR2 := jd (rightAt_len t (j : Int))
   have HRS := jd (show headTo t (j + 1) = bestTo (j : Int) (headTo t j) (rightAt t (j : Int)) (rightAt t (j : Int)).length from rfl)
   have HB0 := jd (show ((⟨x0, x1, x2, l⟩, sm) : HeadM × Bool) = bestTo (j : Int) (headTo t j) (rightAt t (j : Int)) 0 by rw [bestTo_zero]; exact HS9.out)
   generalize rightAt t (j : Int) = R at *
   have hrl : R.length = nr := by
    obtain ⟨_, _, _, e, hl, _⟩ := Rd.kept (S.own_ 0 rfl).rd
    injection e with e1 e2 e3
    rw [hl, e2]
   have HRN := jd hrl
   have hn2 : nr ≤ 2 := by have := HR2.out; omega
   have S1 := jd S
   have B1 := jd c
   clear S c hrl
   go_wp2
   go_loopw [5, 19] (fun sv iv wr2 => ∃ (i : Nat) (y0 y1 y2 : Int) (ly : List MarkM) (sy : Bool) (Gy : Option Addr) (my gy : Nat) (fy : List Nat), i ≤ nr ∧ iv = .int .i64 (i : Int) ∧ ((⟨y0, y1, y2, ly⟩, sy) : HeadM × Bool) = bestTo (j : Int) (headTo t j) R i ∧ sv = .bool sy ∧ Sep wr2 w.heap.size [.own [keptD R] [.slice Ar nr cr] fp_ro, .own [mrkD ly] [.slice Gy my gy] fy, .blk (w.heap.size + 1) #[.int .i64 y0, .int .i64 y1, .int .i64 y2, .slice Gy my gy] 40, .blk w.heap.size #[.int .i64 0, .int .i64 0, .int .i64 0, .slice none 0 0] 40] ∧ Below w.heap.size w wr2) (fun _ iv _ => nr - (intOf iv).toNat)
   case atStart => exact ⟨0, x0, x1, x2, l, sm, G, m, gc, fp, Nat.zero_le _, rfl, HB0.out, rfl, S1.out, B1.out⟩
   case round =>
    obtain ⟨i, y0, y1, y2, ly, sy, Gy, my, gy, fy, hi, rfl, hb9, rfl, S, c⟩ := hrel
    clear S1 B1
    by_cases hik : i < nr
    case neg =>
     have HN := jd (show ((⟨y0, y1, y2, ly⟩, sy) : HeadM × Bool) = headTo t (j + 1) by rw [HRS.out, HRN.out, hb9, show i = nr by omega])
     have SS := jd S.tail
     have CC := jd c
     clear S c hb9
     go_wp2
     go_roundw
     case rel =>
      first
       | exact ⟨j + 1, y0, y1, y2, ly, sy, Gy, my, gy, fy, by have := HLT.out; omega, by go_num, HN.out, rfl, SS.out, CC.out⟩
       | (repeat apply Exists.intro
          refine ⟨⟨j + 1, y0, y1, y2, ly, sy, Gy, my, gy, fy, by have := HLT.out; omega, ?_, HN.out, rfl, SS.out, CC.out⟩, ?_⟩
          rotate_left 1
          · first | rfl | (rw [hdn.out]; done) | (rw [hdn.out]; rfl)
          · go_num)
     case measure => have := HLT.out; simp [intOf] <;> omega
    case pos =>
     have hil : i < R.length := by have := HRN.out; omega
     obtain ⟨_, _, _, e, _, _, _, hel⟩ := Rd.kept (S.own_ 0 rfl).rd
     injection e with e1 e2 e3
     subst e1 e2 e3
     obtain ⟨b, off, rfl, hb, hcc⟩ := hel (by omega)
     obtain ⟨A9, m9, c9, hcell, hrow, hmc, hcM⟩ := hcc i hil
     have hrd : Rd wr wr.heap.size (rowCells R[i]) [.slice A9 m9 c9] := hrow.rd hmc hcM
     have HST := jd (bestTo_step (j : Int) (headTo t j) hil)
     rw [← hb9] at HST
     obtain ⟨d, hd⟩ : ∃ d, d = R[i] := ⟨_, rfl⟩
     rw [← hd] at hrd HST
     have HRD := jd hrd
     have i0 : (0 : Int) ≤ (i : Int) := by omega
     have i1 : (i : Int) < (nr : Int) := by omega
     clear hel hcc hrow hmc hcM hrd hd hb9 hil
     go_wp2_with fail
     refine (iRowHead_at A9 m9 c9 _ d _ HRD.out (Nat.le_refl _)).mono ?_
     rintro e w2 ⟨z0, z1, z2, lz, ob, A2, n2, c2, hrh, rfl, o, b9⟩
     obtain ⟨fp_hs, S'⟩ := S.has b9 o c.size
     replace c := c.trans (b9.mono c.size)
     clear S; have S := S'; clear S' o b9
     clear hcell HRD
     have HBT := jd (show bestTo (j : Int) (headTo t j) R (i + 1) = if ob = true ∧ (z0 % 2 = (j : Int) ∧ (sy = false ∨ y0 < z0)) then ((⟨z0, z1, z2, lz⟩, true) : HeadM × Bool) else (⟨y0, y1, y2, ly⟩, sy) by rw [HST.out]; unfold better; rw [hrh])
     have HOK := jd (show ob = true → 0 ≤ z0 ∧ z0 ≤ 2000 from fun h9 => rowHead_num hrh h9)
     clear HST hrh
     replace S := S.boxAt c.size (w2.heap.size) rfl #[.int .i64 z0, .int .i64 z1, .int .i64 z2, .slice A2 n2 c2] 40
     replace c := al c S
     cases ob
     case false =>
      have HN := jd (HBT.out.trans (if_neg (by rintro ⟨h9, _⟩; cases h9)))
      clear HBT HOK
      have f0 := lk S 0 0 rfl rfl
      have f1 := lk S 0 1 rfl rfl
      have f2 := lk S 0 2 rfl rfl
      have f3 := lk S 0 3 rfl rfl
      have f4 := lk S 4 0 rfl rfl
      have f5 := lk S 4 1 rfl rfl
      have f6 := lk S 4 2 rfl rfl
      have f7 := lk S 4 3 rfl rfl
      replace S := S.sub (.cons _ (.cons _ (.cons_cons _ (.cons_cons _ (.cons_cons _ (.cons_cons _ (List.nil_sublist _)))))))
      have SS := jd S
      have CC := jd c
      clear S c
      go_wp2
      go_roundw
      case rel => exact ⟨i + 1, y0, y1, y2, ly, _, Gy, my, gy, fy, by omega, by go_num, HN.out.symm, rfl, SS.out, CC.out⟩
      case measure => simp [intOf] <;> omega
     case true =>
      have f0 := lk S 0 0 rfl rfl
      have f1 := lk S 0 1 rfl rfl
      have f2 := lk S 0 2 rfl rfl
      have f3 := lk S 0 3 rfl rfl
      go_wp2_with fail
      generalize w2.alloc (.cells #[.int .i64 z0, .int .i64 z1, .int .i64 z2, .slice A2 n2 c2] 40) = w3 at *
      obtain ⟨qh, hqh⟩ : ∃ q, q = w2.heap.size := ⟨_, rfl⟩
      rw [← hqh] at S ⊢
      clear hqh
      clear f0 f1 f2 f3
      refine (iHeadSector_any z0 z1 z2 A2 n2 c2 _).mono ?_
      rintro e w4 ⟨rfl, b2⟩
      replace c := c.trans (b2.mono c.size)
      replace S := S.keep b2
      clear b2
      have hzn := HOK.out (by simp)
      have ht : z0.tmod 2 = z0 % 2 := Int.tmod_eq_emod_of_nonneg hzn.1
      rw [ht]
      clear HOK hzn ht
      by_cases hq : z0 % 2 = (j : Int)
      case neg =>
       have HN := jd (HBT.out.trans (if_neg (by rintro ⟨_, h9, _⟩; exact hq h9)))
       have e1 : (z0 % 2 == (j : Int)) = false := by simpa using hq
       clear hq HBT
       have f4 := lk S 0 0 rfl rfl
       have f5 := lk S 0 1 rfl rfl
       have f6 := lk S 0 2 rfl rfl
       have f7 := lk S 0 3 rfl rfl
       have f8 := lk S 4 0 rfl rfl
       have f9 := lk S 4 1 rfl rfl
       have f10 := lk S 4 2 rfl rfl
       have f11 := lk S 4 3 rfl rfl
       replace S := S.sub (.cons _ (.cons _ (.cons_cons _ (.cons_cons _ (.cons_cons _ (.cons_cons _ (List.nil_sublist _)))))))
       have SS := jd S
       have CC := jd c
       clear S c
       go_wp2
       go_roundw
       case rel => exact ⟨i + 1, y0, y1, y2, ly, _, Gy, my, gy, fy, by omega, by go_num, HN.out.symm, rfl, SS.out, CC.out⟩
       case measure => simp [intOf] <;> omega
      case pos =>
       have HQ := jd hq
       have e1 : (z0 % 2 == (j : Int)) = true := by simpa using hq
       clear hq
       cases sy
       case false =>
        have HN := jd (HBT.out.trans (if_pos (by exact ⟨by simp, HQ.out, Or.inl (by simp)⟩)))
        clear HBT HQ
        have f4 := lk S 0 0 rfl rfl
        have f5 := lk S 0 1 rfl rfl
        have f6 := lk S 0 2 rfl rfl
        have f7 := lk S 0 3 rfl rfl
        have f8 := lk S 4 0 rfl rfl
        have f9 := (S.at_ 4 rfl).free 0
        have f10 := lk S 4 1 rfl rfl
        have f11 := (S.at_ 4 rfl).free 1
        have f12 := lk S 4 2 rfl rfl
        have f13 := (S.at_ 4 rfl).free 2
        have f14 := lk S 4 3 rfl rfl
        have f15 := (S.at_ 4 rfl).free 3
        replace S := S.put 4 rfl 0 (.int .i64 z0)
        replace c := st c S (by omega)
        replace S := S.put 4 rfl 1 (.int .i64 z1)
        replace c := st c S (by omega)
        replace S := S.put 4 rfl 2 (.int .i64 z2)
        replace c := st c S (by omega)
        replace S := S.put 4 rfl 3 (.slice A2 n2 c2)
        replace c := st c S (by omega)
        replace S := S.sub (.cons _ (.cons_cons _ (.cons_cons _ (.cons _ (.cons_cons _ (.cons_cons _ (List.nil_sublist _)))))))
        replace S := S.pick 1 rfl
        have SS := jd S
        have CC := jd c
        clear S c
        go_wp2
        go_roundw
        case rel => exact ⟨i + 1, z0, z1, z2, lz, _, A2, n2, c2, fp_hs, by omega, by go_num, HN.out.symm, rfl, SS.out, CC.out⟩
        case measure => simp [intOf] <;> omega
       case true =>
        by_cases hg : y0 < z0
        case neg =>
         have HN := jd (HBT.out.trans (if_neg (by rintro ⟨_, _, h9⟩; exact h9.elim (fun h8 => by cases h8) hg)))
         have e2 : decide (z0 > y0) = false := decide_eq_false (by omega)
         have e3 : decide (y0 < z0) = false := decide_eq_false hg
         clear HBT HQ hg
         have f4 := lk S 0 0 rfl rfl
         have f5 := lk S 0 1 rfl rfl
         have f6 := lk S 0 2 rfl rfl
         have f7 := lk S 0 3 rfl rfl
         have f8 := lk S 4 0 rfl rfl
         have f9 := lk S 4 1 rfl rfl
         have f10 := lk S 4 2 rfl rfl
         have f11 := lk S 4 3 rfl rfl
         replace S := S.sub (.cons _ (.cons _ (.cons_cons _ (.cons_cons _ (.cons_cons _ (.cons_cons _ (List.nil_sublist _)))))))
         have SS := jd S
         have CC := jd c
         clear S c
         go_wp2
         go_roundw
         case rel => exact ⟨i + 1, y0, y1, y2, ly, _, Gy, my, gy, fy, by omega, by go_num, HN.out.symm, rfl, SS.out, CC.out⟩
         case measure => simp [intOf] <;> omega
        case pos =>
         have HN := jd (HBT.out.trans (if_pos (by exact ⟨by simp, HQ.out, Or.inr hg⟩)))
         have e2 : decide (z0 > y0) = true := decide_eq_true (by omega)
         have e3 : decide (y0 < z0) = true := decide_eq_true hg
         clear HBT HQ hg
         have f4 := lk S 0 0 rfl rfl
         have f5 := lk S 0 1 rfl rfl
         have f6 := lk S 0 2 rfl rfl
         have f7 := lk S 0 3 rfl rfl
         have f8 := lk S 4 0 rfl rfl
         have f9 := (S.at_ 4 rfl).free 0
         have f10 := lk S 4 1 rfl rfl
         have f11 := (S.at_ 4 rfl).free 1
         have f12 := lk S 4 2 rfl rfl
         have f13 := (S.at_ 4 rfl).free 2
         have f14 := lk S 4 3 rfl rfl
         have f15 := (S.at_ 4 rfl).free 3
         replace S := S.put 4 rfl 0 (.int .i64 z0)
         replace c := st c S (by omega)
         replace S := S.put 4 rfl 1 (.int .i64 z1)
         replace c := st c S (by omega)
         replace S := S.put 4 rfl 2 (.int .i64 z2)
         replace c := st c S (by omega)
         replace S := S.put 4 rfl 3 (.slice A2 n2 c2)
         replace c := st c S (by omega)
         replace S := S.sub (.cons _ (.cons_cons _ (.cons_cons _ (.cons _ (.cons_cons _ (.cons_cons _ (List.nil_sublist _)))))))
         replace S := S.pick 1 rfl
         have SS := jd S
         have CC := jd c
         clear S c
         go_wp2
         go_roundw
         case rel => exact ⟨i + 1, z0, z1, z2, lz, _, A2, n2, c2, fp_hs, by omega, by go_num, HN.out.symm, rfl, SS.out, CC.out⟩
         case measure => simp [intOf] <;> omega
set_option maxHeartbeats 12800000 in
theorem iHeadIn_any (Aa0 : Option Addr) (na0 ca0 : Nat) (Aa1 : Option Addr) (na1 ca1 : Nat) (Aa2 : Option Addr) (na2 ca2 : Nat) (Aa3 : Option Addr) (na3 ca3 : Nat) (t : TwoM) (w : World) (h : Rd w w.heap.size t.cells [.slice Aa0 na0 ca0, .slice Aa1 na1 ca1, .slice Aa2 na2 ca2, .slice Aa3 na3 ca3]) (hs : t.sz ≤ 1048576) :
    Calls Try.prog 25 #[.agg #[.slice Aa0 na0 ca0, .slice Aa1 na1 ca1, .slice Aa2 na2 ca2, .slice Aa3 na3 ca3]] w fun e w' => ∃ (z0 z1 z2 : Int) (A2 : Option Addr) (n2 c2 : Nat), e = .returned (.tuple #[.agg #[.int .i64 z0, .int .i64 z1, .int .i64 z2, .slice A2 n2 c2], .bool (headInM t).2]) ∧ Has w' w.heap.size (headInM t).1.cells [.int .i64 z0, .int .i64 z1, .int .i64 z2, .slice A2 n2 c2] ∧ Below w.heap.size w w' := by
 have HH := jd h
 clear h
 have S := Sep.nil w w.heap.size
 have c := Below.refl w.heap.size w
 replace S := S.boxAt c.size (w.heap.size) rfl #[.slice Aa0 na0 ca0, .slice Aa1 na1 ca1, .slice Aa2 na2 ca2, .slice Aa3 na3 ca3] 60
 replace c := al c S
 replace S := S.boxAt c.size (w.heap.size + 1) (by simp) #[.int .i64 0, .int .i64 0, .int .i64 0, .slice none 0 0] 40
 replace c := al c S
 go_enter Try.func25, Try.ntmps25
 have f0 := lk S 1 0 rfl rfl
 have f1 := lk S 1 1 rfl rfl
 have f2 := lk S 1 2 rfl rfl
 have f3 := lk S 1 3 rfl rfl
 go_wp2_with fail
 generalize (w.alloc (.cells #[.slice Aa0 na0 ca0, .slice Aa1 na1 ca1, .slice Aa2 na2 ca2, .slice Aa3 na3 ca3] 60)).alloc (.cells #[.int .i64 0, .int .i64 0, .int .i64 0, .slice none 0 0] 40) = w1 at *
 refine (iKeptOk_any Aa0 na0 ca0 Aa1 na1 ca1 Aa2 na2 ca2 Aa3 na3 ca3 t _ _ (HH.out.keep c) c.size (by omega)).mono ?_
 rintro e w2 ⟨rfl, b2⟩
 replace c := c.trans (b2.mono c.size)
 replace S := S.keep b2
 clear b2 f0 f1 f2 f3
 cases hk : keptB t
 case false =>
  have HV := jd (show headInM t = (headZ, false) by unfold headInM; rw [hk]; rfl)
  clear hk
  have f4 := lk S 0 0 rfl rfl
  have f5 := (S.at_ 0 rfl).free 0
  have f6 := lk S 0 1 rfl rfl
  have f7 := (S.at_ 0 rfl).free 1
  have f8 := lk S 0 2 rfl rfl
  have f9 := (S.at_ 0 rfl).free 2
  have f10 := lk S 0 3 rfl rfl
  have f11 := (S.at_ 0 rfl).free 3
  replace S := S.put 0 rfl 0 (.int .i64 0)
  replace c := st c S (by omega)
  replace S := S.put 0 rfl 1 (.int .i64 0)
  replace c := st c S (by omega)
  replace S := S.put 0 rfl 2 (.int .i64 0)
  replace c := st c S (by omega)
  replace S := S.put 0 rfl 3 (.slice none 0 0)
  replace c := st c S (by omega)
  have H := jd (has_headZ ((((w2.setCell ⟨w.heap.size + 1, 0, none⟩ (.int .i64 0)).setCell ⟨w.heap.size + 1, 1, none⟩ (.int .i64 0)).setCell ⟨w.heap.size + 1, 2, none⟩ (.int .i64 0)).setCell ⟨w.heap.size + 1, 3, none⟩ (.slice none 0 0)) w.heap.size)
  have r0 := jd ((S.at_ 0 rfl).cell 0)
  have r1 := jd ((S.at_ 0 rfl).cell 1)
  have r2 := jd ((S.at_ 0 rfl).cell 2)
  have r3 := jd ((S.at_ 0 rfl).cell 3)
  have CC := jd c
  clear S c
  go_wp2
  exact bodyPost_ret (v := .tuple #[.agg #[.int .i64 0, .int .i64 0, .int .i64 0, .slice none 0 0], .bool false]) (by simp [results, Try.results25, go_sem, r0.out, r1.out, r2.out, r3.out]) rfl ⟨_, _, _, _, _, _, by rw [HV.out], by rw [HV.out]; exact H.out, CC.out⟩
 case true =>
  have HV := jd (show headInM t = headTo t 2 by unfold headInM; rw [if_pos hk])
  clear hk
  have f4 := lk S 1 0 rfl rfl
  have f5 := lk S 1 1 rfl rfl
  have f6 := lk S 1 2 rfl rfl
  have f7 := lk S 1 3 rfl rfl
  go_wp2_with fail
  refine (iReaderOf_any Aa0 na0 ca0 Aa1 na1 ca1 Aa2 na2 ca2 Aa3 na3 ca3 _).mono ?_
  rintro e w9 ⟨rfl, rfl⟩
  replace S := S.boxAt c.size (w2.heap.size) rfl #[.slice Aa0 na0 ca0, .slice Aa1 na1 ca1, .slice Aa2 na2 ca2, .slice Aa3 na3 ca3] 60
  replace c := al c S
  clear f4 f5 f6 f7
  go_wp2_with fail
  generalize w2.alloc (.cells #[.slice Aa0 na0 ca0, .slice Aa1 na1 ca1, .slice Aa2 na2 ca2, .slice Aa3 na3 ca3] 60) = w3 at *
  have hqb : Blk w3 w2.heap.size #[.slice Aa0 na0 ca0, .slice Aa1 na1 ca1, .slice Aa2 na2 ca2, .slice Aa3 na3 ca3] 60 := S.at_ 0 rfl
  refine (iHeadFrom_any _ Aa0 na0 ca0 Aa1 na1 ca1 Aa2 na2 ca2 Aa3 na3 ca3 t _ hqb ((HH.out.keep c).up c.size) hs).mono ?_
  rintro e w4 ⟨z0, z1, z2, A2, n2, c2, rfl, o, b⟩
  obtain ⟨fp_u, S'⟩ := S.has b o c.size
  replace c := c.trans (b.mono c.size)
  clear S; have S := S'; clear S' o b
  clear hqb
  rw [← HV.out] at S ⊢
  have f8 := lk S 2 0 rfl rfl
  have f9 := (S.at_ 2 rfl).free 0
  have f10 := lk S 2 1 rfl rfl
  have f11 := (S.at_ 2 rfl).free 1
  have f12 := lk S 2 2 rfl rfl
  have f13 := (S.at_ 2 rfl).free 2
  have f14 := lk S 2 3 rfl rfl
  have f15 := (S.at_ 2 rfl).free 3
  replace S := S.put 2 rfl 0 (.int .i64 z0)
  replace c := st c S (by omega)
  replace S := S.put 2 rfl 1 (.int .i64 z1)
  replace c := st c S (by omega)
  replace S := S.put 2 rfl 2 (.int .i64 z2)
  replace c := st c S (by omega)
  replace S := S.put 2 rfl 3 (.slice A2 n2 c2)
  replace c := st c S (by omega)
  replace S := S.pick 0 rfl
  have H := jd S.first
  have r0 := jd ((S.at_ 2 rfl).cell 0)
  have r1 := jd ((S.at_ 2 rfl).cell 1)
  have r2 := jd ((S.at_ 2 rfl).cell 2)
  have r3 := jd ((S.at_ 2 rfl).cell 3)
  have CC := jd c
  clear S c
  go_wp2
  exact bodyPost_ret (v := .tuple #[.agg #[.int .i64 z0, .int .i64 z1, .int .i64 z2, .slice A2 n2 c2], .bool (headInM t).2]) (by simp [results, Try.results25, go_sem, r0.out, r1.out, r2.out, r3.out]) rfl ⟨_, _, _, _, _, _, rfl, H.out, CC.out⟩
end Go.Proofs.Ytmjifhjhialcbaa

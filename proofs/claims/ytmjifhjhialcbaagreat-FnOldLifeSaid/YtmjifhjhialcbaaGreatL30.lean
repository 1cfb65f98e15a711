/- Parts of my texts: HeadI7 HeadIC RecS1 BookI1 BookI2. -/
import Derived.Test.YtmjifhjhialcbaaGreatL27
import Derived.Test.YtmjifhjhialcbaaGreatL29
namespace Go.Proofs.YtmjifhjhialcbaaGreat
set_option maxRecDepth 100000
set_option linter.unusedVariables false
open Go.RowKit
theorem iRowHead_at (A : Option Addr) (n cc B : Nat) (d : List Int) (w : World) (h : Rd w B (rowCells d) [.slice A n cc]) (hB : B ≤ w.heap.size) :
    Calls Tryz.prog 168 #[.slice A n cc] w fun e w' => ∃ (z0 z1 z2 : Int) (lz : List MarkM) (ob : Bool) (A2 : Option Addr) (n2 c2 : Nat), rowHeadM d = (⟨z0, z1, z2, lz⟩, ob) ∧ e = .returned (.tuple #[.agg #[.int .i64 z0, .int .i64 z1, .int .i64 z2, .slice A2 n2 c2], .bool ob]) ∧ Has w' w.heap.size [mrkD lz] [.slice A2 n2 c2] ∧ Below w.heap.size w w' := by
 refine (iRowHead_any A n cc B d w h hB).mono ?_
 rintro e w' ⟨z0, z1, z2, A2, n2, c2, rfl, o, b⟩
 obtain ⟨e0, e1, e2, o3⟩ := o.headT
 injection e0 with _ e0
 injection e1 with _ e1
 injection e2 with _ e2
 exact ⟨(rowHeadM d).1.num, (rowHeadM d).1.base, (rowHeadM d).1.tm, (rowHeadM d).1.seen, (rowHeadM d).2, A2, n2, c2, rfl, by rw [e0, e1, e2], o3, b⟩
set_option maxHeartbeats 12800000 in
theorem iHeadFrom_any (q : Nat) (Aa0 : Option Addr) (na0 ca0 : Nat) (Aa1 : Option Addr) (na1 ca1 : Nat) (Aa2 : Option Addr) (na2 ca2 : Nat) (Aa3 : Option Addr) (na3 ca3 : Nat) (t : TwoM) (w : World) (hq : Blk w q #[.slice Aa0 na0 ca0, .slice Aa1 na1 ca1, .slice Aa2 na2 ca2, .slice Aa3 na3 ca3] 35) (h : Rd w w.heap.size t.cells [.slice Aa0 na0 ca0, .slice Aa1 na1 ca1, .slice Aa2 na2 ca2, .slice Aa3 na3 ca3]) (hs : t.sz ≤ 1048576) :
    Calls Tryz.prog 117 #[.func (.func 148) #[] #[.pointer (some ⟨q, 0, none⟩)]] w fun e w' => ∃ (z0 z1 z2 : Int) (A2 : Option Addr) (n2 c2 : Nat), e = .returned (.tuple #[.agg #[.int .i64 z0, .int .i64 z1, .int .i64 z2, .slice A2 n2 c2], .bool (headTo t 2).2]) ∧ Has w' w.heap.size (headTo t 2).1.cells [.int .i64 z0, .int .i64 z1, .int .i64 z2, .slice A2 n2 c2] ∧ Below w.heap.size w w' := by
 have HH := jd h
 have HQB := jd hq
 have HQL := jd hq.lt
 clear h hq
 have S := Sep.nil w w.heap.size
 have c := Below.refl w.heap.size w
 replace S := S.boxAt c.size (w.heap.size) rfl #[.int .i64 0, .int .i64 0, .int .i64 0, .slice none 0 0] 45
 replace c := al c S
 replace S := S.boxAt c.size (w.heap.size + 1) (by simp) #[.int .i64 0, .int .i64 0, .int .i64 0, .slice none 0 0] 45
 replace c := al c S
 go_enter Tryz.func117, Tryz.ntmps117
 replace S := S.own0 (ow_nil_mrksH _)
 have S0 := jd S
 have B0 := jd c
 clear S c
 go_wp2
 go_loopw [5, 12] (fun sv k wr => ∃ (j : Nat) (x0 x1 x2 : Int) (l : List MarkM) (sm : Bool) (G : Option Addr) (m gc : Nat) (fp : List Nat), j ≤ 2 ∧ k = .int .i64 (j : Int) ∧ ((⟨x0, x1, x2, l⟩, sm) : HeadM × Bool) = headTo t j ∧ sv = .bool sm ∧ Sep wr w.heap.size [.own [mrkD l] [.slice G m gc] fp, .blk (w.heap.size + 1) #[.int .i64 x0, .int .i64 x1, .int .i64 x2, .slice G m gc] 45, .blk w.heap.size #[.int .i64 0, .int .i64 0, .int .i64 0, .slice none 0 0] 45] ∧ Below w.heap.size w wr) (fun _ k _ => 2 - (intOf k).toNat)
 case atStart => exact ⟨0, 0, 0, 0, [], false, none, 0, 0, [], Nat.zero_le _, rfl, rfl, rfl, S0.out, B0.out⟩
 case round =>
  obtain ⟨j, x0, x1, x2, l, sm, G, m, gc, fp, hj, rfl, hs9, rfl, S, c⟩ := hrel
  clear S0 B0
  by_cases hlt : j < 2
  case neg =>
   obtain rfl : j = 2 := by omega
   have HV := jd hs9.symm
   clear hs9 hj hlt
   have f0 := lk S 1 0 rfl rfl
   have f1 := lk S 1 1 rfl rfl
   have f2 := lk S 1 2 rfl rfl
   have f3 := lk S 1 3 rfl rfl
   have f4 := lk S 2 0 rfl rfl
   have f5 := (S.at_ 2 rfl).free 0
   have f6 := lk S 2 1 rfl rfl
   have f7 := (S.at_ 2 rfl).free 1
   have f8 := lk S 2 2 rfl rfl
   have f9 := (S.at_ 2 rfl).free 2
   have f10 := lk S 2 3 rfl rfl
   have f11 := (S.at_ 2 rfl).free 3
   replace S := S.put 2 rfl 0 (.int .i64 x0)
   replace c := st c S (by omega)
   replace S := S.put 2 rfl 1 (.int .i64 x1)
   replace c := st c S (by omega)
   replace S := S.put 2 rfl 2 (.int .i64 x2)
   replace c := st c S (by omega)
   replace S := S.put 2 rfl 3 (.slice G m gc)
   replace c := st c S (by omega)
   have H := jd (Has.int (n := x0) (Has.int (n := x1) (Has.int (n := x2) S.first)))
   have r0 := jd ((S.at_ 2 rfl).cell 0)
   have r1 := jd ((S.at_ 2 rfl).cell 1)
   have r2 := jd ((S.at_ 2 rfl).cell 2)
   have r3 := jd ((S.at_ 2 rfl).cell 3)
   have CC := jd c
   clear S c
   go_wp2
   exact bodyPost_ret (v := .tuple #[.agg #[.int .i64 x0, .int .i64 x1, .int .i64 x2, .slice G m gc], .bool sm]) (by simp [results, Tryz.results117, go_sem, r0.out, r1.out, r2.out, r3.out]) rfl ⟨_, _, _, _, _, _, by rw [HV.out], by rw [HV.out]; exact H.out, CC.out⟩
  case pos =>
   have HLT := jd hlt
   have hdn := jd (show decide ((j : Int) < 2) = true from decide_eq_true (by omega))
   have HS9 := jd hs9
   clear hs9 hj
   go_wp2_with fail
   refine (iReader_any q Aa0 na0 ca0 Aa1 na1 ca1 Aa2 na2 ca2 Aa3 na3 ca3 t (j : Int) _ (HQB.out.keep c HQL.out) ((HH.out.keep c).up c.size) hs).mono ?_
   rintro e w1 ⟨Ar, nr, cr, rfl, o, b⟩
   obtain ⟨fp_ro, S'⟩ := S.has b o c.size
   replace c := c.trans (b.mono c.size)
   clear S; have S := S'; clear S' o b
   have HR2 := jd (rightAt_len t (j : Int))
   have HRS := jd (show headTo t (j + 1) = bestTo (j : Int) (headTo t j) (rightAt t (j : Int)) (rightAt t (j : Int)).length from rfl)
   have HB0 := jd (show ((⟨x0, x1, x2, l⟩, sm) : HeadM × Bool) = bestTo (j : Int) (headTo t j) (rightAt t (j : Int)) 0 by rw [bestTo_zero]; exact HS9.out)
   generalize rightAt t (j : Int) = R at *
   have hrl : R.length = nr := by
    obtain ⟨_, _, _, e, hl, _⟩ := Rd.kept (S.own_ 0 rfl).rd
    injection e with e1 e2 e3
    rw [hl, e2]
   have HRN := jd hrl
   have hn2 : nr ≤ 2 := by have := HR2.out; omega
   have S1 := jd S
   have B1 := jd c
   clear S c hrl
   go_wp2
   go_loopw [5, 19] (fun sv iv wr2 => ∃ (i : Nat) (y0 y1 y2 : Int) (ly : List MarkM) (sy : Bool) (Gy : Option Addr) (my gy : Nat) (fy : List Nat), i ≤ nr ∧ iv = .int .i64 (i : Int) ∧ ((⟨y0, y1, y2, ly⟩, sy) : HeadM × Bool) = bestTo (j : Int) (headTo t j) R i ∧ sv = .bool sy ∧ Sep wr2 w.heap.size [.own [keptD R] [.slice Ar nr cr] fp_ro, .own [mrkD ly] [.slice Gy my gy] fy, .blk (w.heap.size + 1) #[.int .i64 y0, .int .i64 y1, .int .i64 y2, .slice Gy my gy] 45, .blk w.heap.size #[.int .i64 0, .int .i64 0, .int .i64 0, .slice none 0 0] 45] ∧ Below w.heap.size w wr2) (fun _ iv _ => nr - (intOf iv).toNat)
   case atStart => exact ⟨0, x0, x1, x2, l, sm, G, m, gc, fp, Nat.zero_le _, rfl, HB0.out, rfl, S1.out, B1.out⟩
   case round =>
    obtain ⟨i, y0, y1, y2, ly, sy, Gy, my, gy, fy, hi, rfl, hb9, rfl, S, c⟩ := hrel
    clear S1 B1
    by_cases hik : i < nr
    case neg =>
     have HN := jd (show ((⟨y0, y1, y2, ly⟩, sy) : HeadM × Bool) = headTo t (j + 1) by rw [HRS.out, HRN.out, hb9, show i = nr by omega])
     have SS := jd S.tail
     have CC := jd c
     clear S c hb9
     go_wp2
     go_roundw
     case rel =>
      first
       | exact ⟨j + 1, y0, y1, y2, ly, sy, Gy, my, gy, fy, by have := HLT.out; omega, by go_num, HN.out, rfl, SS.out, CC.out⟩
       | (repeat apply Exists.intro
          refine ⟨⟨j + 1, y0, y1, y2, ly, sy, Gy, my, gy, fy, by have := HLT.out; omega, ?_, HN.out, rfl, SS.out, CC.out⟩, ?_⟩
          rotate_left 1
          · first | rfl | (rw [hdn.out]; done) | (rw [hdn.out]; rfl)
          · go_num)
     case measure => have := HLT.out; simp [intOf] <;> omega
    case pos =>
     have hil : i < R.length := by have := HRN.out; omega
     obtain ⟨_, _, _, e, _, _, _, hel⟩ := Rd.kept (S.own_ 0 rfl).rd
     injection e with e1 e2 e3
     subst e1 e2 e3
     obtain ⟨b, off, rfl, hb, hcc⟩ := hel (by omega)
     obtain ⟨A9, m9, c9, hcell, hrow, hmc, hcM⟩ := hcc i hil
     have hrd : Rd wr wr.heap.size (rowCells R[i]) [.slice A9 m9 c9] := hrow.rd hmc hcM
     have HST := jd (bestTo_step (j : Int) (headTo t j) hil)
     rw [← hb9] at HST
     obtain ⟨d, hd⟩ : ∃ d, d = R[i] := ⟨_, rfl⟩
     rw [← hd] at hrd HST
     have HRD := jd hrd
     have i0 : (0 : Int) ≤ (i : Int) := by omega
     have i1 : (i : Int) < (nr : Int) := by omega
     clear hel hcc hrow hmc hcM hrd hd hb9 hil
     go_wp2_with fail
     refine (iRowHead_at A9 m9 c9 _ d _ HRD.out (Nat.le_refl _)).mono ?_
     rintro e w2 ⟨z0, z1, z2, lz, ob, A2, n2, c2, hrh, rfl, o, b9⟩
     obtain ⟨fp_hs, S'⟩ := S.has b9 o c.size
     replace c := c.trans (b9.mono c.size)
     clear S; have S := S'; clear S' o b9
     clear hcell HRD
     have HBT := jd (show bestTo (j : Int) (headTo t j) R (i + 1) = if ob = true ∧ (z0 % 2 = (j : Int) ∧ (sy = false ∨ y0 < z0)) then ((⟨z0, z1, z2, lz⟩, true) : HeadM × Bool) else (⟨y0, y1, y2, ly⟩, sy) by rw [HST.out]; unfold better; rw [hrh])
     have HOK := jd (show ob = true → 0 ≤ z0 ∧ z0 ≤ 2000 from fun h9 => rowHead_num hrh h9)
     clear HST hrh
     replace S := S.boxAt c.size (w2.heap.size) rfl #[.int .i64 z0, .int .i64 z1, .int .i64 z2, .slice A2 n2 c2] 45
     replace c := al c S
     cases ob
     case false =>
      have HN := jd (HBT.out.trans (if_neg (by rintro ⟨h9, _⟩; cases h9)))
      clear HBT HOK
      have f0 := lk S 0 0 rfl rfl
      have f1 := lk S 0 1 rfl rfl
      have f2 := lk S 0 2 rfl rfl
      have f3 := lk S 0 3 rfl rfl
      have f4 := lk S 4 0 rfl rfl
      have f5 := lk S 4 1 rfl rfl
      have f6 := lk S 4 2 rfl rfl
      have f7 := lk S 4 3 rfl rfl
      replace S := S.sub (.cons _ (.cons _ (.cons_cons _ (.cons_cons _ (.cons_cons _ (.cons_cons _ (List.nil_sublist _)))))))
      have SS := jd S
      have CC := jd c
      clear S c
      go_wp2
      go_roundw
      case rel => exact ⟨i + 1, y0, y1, y2, ly, _, Gy, my, gy, fy, by omega, by go_num, HN.out.symm, rfl, SS.out, CC.out⟩
      case measure => simp [intOf] <;> omega
     case true =>
      have f0 := lk S 0 0 rfl rfl
      have f1 := lk S 0 1 rfl rfl
      have f2 := lk S 0 2 rfl rfl
      have f3 := lk S 0 3 rfl rfl
      go_wp2_with fail
      generalize w2.alloc (.cells #[.int .i64 z0, .int .i64 z1, .int .i64 z2, .slice A2 n2 c2] 45) = w3 at *
      obtain ⟨qh, hqh⟩ : ∃ q, q = w2.heap.size := ⟨_, rfl⟩
      rw [← hqh] at S ⊢
      clear hqh
      clear f0 f1 f2 f3
      refine (iHeadSector_any z0 z1 z2 A2 n2 c2 _).mono ?_
      rintro e w4 ⟨rfl, b2⟩
      replace c := c.trans (b2.mono c.size)
      replace S := S.keep b2
      clear b2
      have hzn := HOK.out (by simp)
      have ht : z0.tmod 2 = z0 % 2 := Int.tmod_eq_emod_of_nonneg hzn.1
      rw [ht]
      clear HOK hzn ht
      by_cases hq : z0 % 2 = (j : Int)
      case neg =>
       have HN := jd (HBT.out.trans (if_neg (by rintro ⟨_, h9, _⟩; exact hq h9)))
       have e1 : (z0 % 2 == (j : Int)) = false := by simpa using hq
       clear hq HBT
       have f4 := lk S 0 0 rfl rfl
       have f5 := lk S 0 1 rfl rfl
       have f6 := lk S 0 2 rfl rfl
       have f7 := lk S 0 3 rfl rfl
       have f8 := lk S 4 0 rfl rfl
       have f9 := lk S 4 1 rfl rfl
       have f10 := lk S 4 2 rfl rfl
       have f11 := lk S 4 3 rfl rfl
       replace S := S.sub (.cons _ (.cons _ (.cons_cons _ (.cons_cons _ (.cons_cons _ (.cons_cons _ (List.nil_sublist _)))))))
       have SS := jd S
       have CC := jd c
       clear S c
       go_wp2
       go_roundw
       case rel => exact ⟨i + 1, y0, y1, y2, ly, _, Gy, my, gy, fy, by omega, by go_num, HN.out.symm, rfl, SS.out, CC.out⟩
       case measure => simp [intOf] <;> omega
      case pos =>
       have HQ := jd hq
       have e1 : (z0 % 2 == (j : Int)) = true := by simpa using hq
       clear hq
       cases sy
       case false =>
        have HN := jd (HBT.out.trans (if_pos (by exact ⟨by simp, HQ.out, Or.inl (by simp)⟩)))
        clear HBT HQ
        have f4 := lk S 0 0 rfl rfl
        have f5 := lk S 0 1 rfl rfl
        have f6 := lk S 0 2 rfl rfl
        have f7 := lk S 0 3 rfl rfl
        have f8 := lk S 4 0 rfl rfl
        have f9 := (S.at_ 4 rfl).free 0
        have f10 := lk S 4 1 rfl rfl
        have f11 := (S.at_ 4 rfl).free 1
        have f12 := lk S 4 2 rfl rfl
        have f13 := (S.at_ 4 rfl).free 2
        have f14 := lk S 4 3 rfl rfl
        have f15 := (S.at_ 4 rfl).free 3
        replace S := S.put 4 rfl 0 (.int .i64 z0)
        replace c := st c S (by omega)
        replace S := S.put 4 rfl 1 (.int .i64 z1)
        replace c := st c S (by omega)
        replace S := S.put 4 rfl 2 (.int .i64 z2)
        replace c := st c S (by omega)
        replace S := S.put 4 rfl 3 (.slice A2 n2 c2)
        replace c := st c S (by omega)
        replace S := S.sub (.cons _ (.cons_cons _ (.cons_cons _ (.cons _ (.cons_cons _ (.cons_cons _ (List.nil_sublist _)))))))
        replace S := S.pick 1 rfl
        have SS := jd S
        have CC := jd c
        clear S c
        go_wp2
        go_roundw
        case rel => exact ⟨i + 1, z0, z1, z2, lz, _, A2, n2, c2, fp_hs, by omega, by go_num, HN.out.symm, rfl, SS.out, CC.out⟩
        case measure => simp [intOf] <;> omega
       case true =>
        by_cases hg : y0 < z0
        case neg =>
         have HN := jd (HBT.out.trans (if_neg (by rintro ⟨_, _, h9⟩; exact h9.elim (fun h8 => by cases h8) hg)))
         have e2 : decide (z0 > y0) = false := decide_eq_false (by omega)
         have e3 : decide (y0 < z0) = false := decide_eq_false hg
         clear HBT HQ hg
         have f4 := lk S 0 0 rfl rfl
         have f5 := lk S 0 1 rfl rfl
         have f6 := lk S 0 2 rfl rfl
         have f7 := lk S 0 3 rfl rfl
         have f8 := lk S 4 0 rfl rfl
         have f9 := lk S 4 1 rfl rfl
         have f10 := lk S 4 2 rfl rfl
         have f11 := lk S 4 3 rfl rfl
         replace S := S.sub (.cons _ (.cons _ (.cons_cons _ (.cons_cons _ (.cons_cons _ (.cons_cons _ (List.nil_sublist _)))))))
         have SS := jd S
         have CC := jd c
         clear S c
         go_wp2
         go_roundw
         case rel => exact ⟨i + 1, y0, y1, y2, ly, _, Gy, my, gy, fy, by omega, by go_num, HN.out.symm, rfl, SS.out, CC.out⟩
         case measure => simp [intOf] <;> omega
        case pos =>
         have HN := jd (HBT.out.trans (if_pos (by exact ⟨by simp, HQ.out, Or.inr hg⟩)))
         have e2 : decide (z0 > y0) = true := decide_eq_true (by omega)
         have e3 : decide (y0 < z0) = true := decide_eq_true hg
         clear HBT HQ hg
         have f4 := lk S 0 0 rfl rfl
         have f5 := lk S 0 1 rfl rfl
         have f6 := lk S 0 2 rfl rfl
         have f7 := lk S 0 3 rfl rfl
         have f8 := lk S 4 0 rfl rfl
         have f9 := (S.at_ 4 rfl).free 0
         have f10 := lk S 4 1 rfl rfl
         have f11 := (S.at_ 4 rfl).free 1
         have f12 := lk S 4 2 rfl rfl
         have f13 := (S.at_ 4 rfl).free 2
         have f14 := lk S 4 3 rfl rfl
         have f15 := (S.at_ 4 rfl).free 3
         replace S := S.put 4 rfl 0 (.int .i64 z0)
         replace c := st c S (by omega)
         replace S := S.put 4 rfl 1 (.int .i64 z1)
         replace c := st c S (by omega)
         replace S := S.put 4 rfl 2 (.int .i64 z2)
         replace c := st c S (by omega)
         replace S := S.put 4 rfl 3 (.slice A2 n2 c2)
         replace c := st c S (by omega)
         replace S := S.sub (.cons _ (.cons_cons _ (.cons_cons _ (.cons _ (.cons_cons _ (.cons_cons _ (List.nil_sublist _)))))))
         replace S := S.pick 1 rfl
         have SS := jd S
         have CC := jd c
         clear S c
         go_wp2
         go_roundw
         case rel => exact ⟨i + 1, z0, z1, z2, lz, _, A2, n2, c2, fp_hs, by omega, by go_num, HN.out.symm, rfl, SS.out, CC.out⟩
         case measure => simp [intOf] <;> omega
set_option maxHeartbeats 12800000 in
theorem iHeadIn_any (Aa0 : Option Addr) (na0 ca0 : Nat) (Aa1 : Option Addr) (na1 ca1 : Nat) (Aa2 : Option Addr) (na2 ca2 : Nat) (Aa3 : Option Addr) (na3 ca3 : Nat) (t : TwoM) (w : World) (h : Rd w w.heap.size t.cells [.slice Aa0 na0 ca0, .slice Aa1 na1 ca1, .slice Aa2 na2 ca2, .slice Aa3 na3 ca3]) (hs : t.sz ≤ 1048576) :
    Calls Tryz.prog 60 #[.agg #[.slice Aa0 na0 ca0, .slice Aa1 na1 ca1, .slice Aa2 na2 ca2, .slice Aa3 na3 ca3]] w fun e w' => ∃ (z0 z1 z2 : Int) (A2 : Option Addr) (n2 c2 : Nat), e = .returned (.tuple #[.agg #[.int .i64 z0, .int .i64 z1, .int .i64 z2, .slice A2 n2 c2], .bool (headInM t).2]) ∧ Has w' w.heap.size (headInM t).1.cells [.int .i64 z0, .int .i64 z1, .int .i64 z2, .slice A2 n2 c2] ∧ Below w.heap.size w w' := by
 have HH := jd h
 clear h
 have S := Sep.nil w w.heap.size
 have c := Below.refl w.heap.size w
 replace S := S.boxAt c.size (w.heap.size) rfl #[.slice Aa0 na0 ca0, .slice Aa1 na1 ca1, .slice Aa2 na2 ca2, .slice Aa3 na3 ca3] 35
 replace c := al c S
 replace S := S.boxAt c.size (w.heap.size + 1) (by simp) #[.int .i64 0, .int .i64 0, .int .i64 0, .slice none 0 0] 45
 replace c := al c S
 go_enter Tryz.func60, Tryz.ntmps60
 have f0 := lk S 1 0 rfl rfl
 have f1 := lk S 1 1 rfl rfl
 have f2 := lk S 1 2 rfl rfl
 have f3 := lk S 1 3 rfl rfl
 go_wp2_with fail
 generalize (w.alloc (.cells #[.slice Aa0 na0 ca0, .slice Aa1 na1 ca1, .slice Aa2 na2 ca2, .slice Aa3 na3 ca3] 35)).alloc (.cells #[.int .i64 0, .int .i64 0, .int .i64 0, .slice none 0 0] 45) = w1 at *
 refine (iKeptOk_any Aa0 na0 ca0 Aa1 na1 ca1 Aa2 na2 ca2 Aa3 na3 ca3 t _ _ (HH.out.keep c) c.size (by omega)).mono ?_
 rintro e w2 ⟨rfl, b2⟩
 replace c := c.trans (b2.mono c.size)
 replace S := S.keep b2
 clear b2 f0 f1 f2 f3
 cases hk : keptB t
 case false =>
  have HV := jd (show headInM t = (headZ, false) by unfold headInM; rw [hk]; rfl)
  clear hk
  have f4 := lk S 0 0 rfl rfl
  have f5 := (S.at_ 0 rfl).free 0
  have f6 := lk S 0 1 rfl rfl
  have f7 := (S.at_ 0 rfl).free 1
  have f8 := lk S 0 2 rfl rfl
  have f9 := (S.at_ 0 rfl).free 2
  have f10 := lk S 0 3 rfl rfl
  have f11 := (S.at_ 0 rfl).free 3
  replace S := S.put 0 rfl 0 (.int .i64 0)
  replace c := st c S (by omega)
  replace S := S.put 0 rfl 1 (.int .i64 0)
  replace c := st c S (by omega)
  replace S := S.put 0 rfl 2 (.int .i64 0)
  replace c := st c S (by omega)
  replace S := S.put 0 rfl 3 (.slice none 0 0)
  replace c := st c S (by omega)
  have H := jd (has_headZ ((((w2.setCell ⟨w.heap.size + 1, 0, none⟩ (.int .i64 0)).setCell ⟨w.heap.size + 1, 1, none⟩ (.int .i64 0)).setCell ⟨w.heap.size + 1, 2, none⟩ (.int .i64 0)).setCell ⟨w.heap.size + 1, 3, none⟩ (.slice none 0 0)) w.heap.size)
  have r0 := jd ((S.at_ 0 rfl).cell 0)
  have r1 := jd ((S.at_ 0 rfl).cell 1)
  have r2 := jd ((S.at_ 0 rfl).cell 2)
  have r3 := jd ((S.at_ 0 rfl).cell 3)
  have CC := jd c
  clear S c
  go_wp2
  exact bodyPost_ret (v := .tuple #[.agg #[.int .i64 0, .int .i64 0, .int .i64 0, .slice none 0 0], .bool false]) (by simp [results, Tryz.results60, go_sem, r0.out, r1.out, r2.out, r3.out]) rfl ⟨_, _, _, _, _, _, by rw [HV.out], by rw [HV.out]; exact H.out, CC.out⟩
 case true =>
  have HV := jd (show headInM t = headTo t 2 by unfold headInM; rw [if_pos hk])
  clear hk
  have f4 := lk S 1 0 rfl rfl
  have f5 := lk S 1 1 rfl rfl
  have f6 := lk S 1 2 rfl rfl
  have f7 := lk S 1 3 rfl rfl
  go_wp2_with fail
  refine (iReaderOf_any Aa0 na0 ca0 Aa1 na1 ca1 Aa2 na2 ca2 Aa3 na3 ca3 _).mono ?_
  rintro e w9 ⟨rfl, rfl⟩
  replace S := S.boxAt c.size (w2.heap.size) rfl #[.slice Aa0 na0 ca0, .slice Aa1 na1 ca1, .slice Aa2 na2 ca2, .slice Aa3 na3 ca3] 35
  replace c := al c S
  clear f4 f5 f6 f7
  go_wp2_with fail
  generalize w2.alloc (.cells #[.slice Aa0 na0 ca0, .slice Aa1 na1 ca1, .slice Aa2 na2 ca2, .slice Aa3 na3 ca3] 35) = w3 at *
  have hqb : Blk w3 w2.heap.size #[.slice Aa0 na0 ca0, .slice Aa1 na1 ca1, .slice Aa2 na2 ca2, .slice Aa3 na3 ca3] 35 := S.at_ 0 rfl
  refine (iHeadFrom_any _ Aa0 na0 ca0 Aa1 na1 ca1 Aa2 na2 ca2 Aa3 na3 ca3 t _ hqb ((HH.out.keep c).up c.size) hs).mono ?_
  rintro e w4 ⟨z0, z1, z2, A2, n2, c2, rfl, o, b⟩
  obtain ⟨fp_u, S'⟩ := S.has b o c.size
  replace c := c.trans (b.mono c.size)
  clear S; have S := S'; clear S' o b
  clear hqb
  rw [← HV.out] at S ⊢
  have f8 := lk S 2 0 rfl rfl
  have f9 := (S.at_ 2 rfl).free 0
  have f10 := lk S 2 1 rfl rfl
  have f11 := (S.at_ 2 rfl).free 1
  have f12 := lk S 2 2 rfl rfl
  have f13 := (S.at_ 2 rfl).free 2
  have f14 := lk S 2 3 rfl rfl
  have f15 := (S.at_ 2 rfl).free 3
  replace S := S.put 2 rfl 0 (.int .i64 z0)
  replace c := st c S (by omega)
  replace S := S.put 2 rfl 1 (.int .i64 z1)
  replace c := st c S (by omega)
  replace S := S.put 2 rfl 2 (.int .i64 z2)
  replace c := st c S (by omega)
  replace S := S.put 2 rfl 3 (.slice A2 n2 c2)
  replace c := st c S (by omega)
  replace S := S.pick 0 rfl
  have H := jd S.first
  have r0 := jd ((S.at_ 2 rfl).cell 0)
  have r1 := jd ((S.at_ 2 rfl).cell 1)
  have r2 := jd ((S.at_ 2 rfl).cell 2)
  have r3 := jd ((S.at_ 2 rfl).cell 3)
  have CC := jd c
  clear S c
  go_wp2
  exact bodyPost_ret (v := .tuple #[.agg #[.int .i64 z0, .int .i64 z1, .int .i64 z2, .slice A2 n2 c2], .bool (headInM t).2]) (by simp [results, Tryz.results60, go_sem, r0.out, r1.out, r2.out, r3.out]) rfl ⟨_, _, _, _, _, _, rfl, H.out, CC.out⟩
theorem iNewKept_c : CNewKept 13 := fun w => iNewKept_any w
theorem iKeptEntry_c : CKeptEntry 47 := fun Aa0 na0 ca0 Aa1 na1 ca1 Aa2 na2 ca2 Aa3 na3 ca3 t x0 x1 x2 x3 x4 x5 x6 x7 x8 w h hs => iKeptEntry_any Aa0 na0 ca0 Aa1 na1 ca1 Aa2 na2 ca2 Aa3 na3 ca3 t x0 x1 x2 x3 x4 x5 x6 x7 x8 w h hs
theorem pick_skip {b : BookM} {s : List MarkM} {R : List (List Int)} {i : Nat} (h : i < R.length) (hf : fitsM b s R[i] = false) : pickM b s (R.drop i) = pickM b s (R.drop (i + 1)) := by
 rw [List.drop_eq_getElem_cons h]
 unfold pickM
 rw [List.find?_cons, hf]
theorem pick_take {b : BookM} {s : List MarkM} {R : List (List Int)} {i : Nat} (h : i < R.length) (hf : fitsM b s R[i] = true) : pickM b s (R.drop i) = ((rowSlotM R[i]).1, true) := by
 rw [List.drop_eq_getElem_cons h]
 unfold pickM
 rw [List.find?_cons, hf]
end Go.Proofs.YtmjifhjhialcbaaGreat
namespace Go.Proofs.YtmjifhjhialcbaaGreat
set_option maxRecDepth 100000
set_option linter.unusedVariables false
open Go.RowKit
attribute [local go_sem] Oper.semAt_some
def encE (e : EntM) : Array Value := #[.agg #[.int .i64 e.idx, .int .i64 e.tm, .int .i64 e.cl, .int .i64 e.sq, .int .i64 e.kd, .int .i64 e.oa, .int .i64 e.ob, .int .i64 e.oc, .int .i64 e.od]]
def inE (a z : Int) (e : EntM) : Bool := decide (a ≤ e.idx) && decide (e.idx ≤ z)
def selN (l : List EntM) (a z : Int) (j : Nat) : List EntM := (l.take j).filter (inE a z)
def selE (l : List EntM) (a z : Int) : List EntM := l.filter (inE a z)
theorem selN_yes {l : List EntM} {a z : Int} {j : Nat} (hj : j < l.length) (h : inE a z l[j] = true) : selN l a z (j + 1) = selN l a z j ++ [l[j]] := by
 unfold selN
 rw [List.take_succ_eq_append_getElem hj, List.filter_append]
 simp [h]
theorem selN_no {l : List EntM} {a z : Int} {j : Nat} (hj : j < l.length) (h : inE a z l[j] = false) : selN l a z (j + 1) = selN l a z j := by
 unfold selN
 rw [List.take_succ_eq_append_getElem hj, List.filter_append]
 simp [h]
theorem selN_all {l : List EntM} {a z : Int} : selN l a z l.length = selE l a z := by
 unfold selN selE
 rw [List.take_length]
theorem selN_pre (l : List EntM) (a z : Int) (j : Nat) : selN l a z j <+: selE l a z := by
 unfold selN selE
 exact (List.take_prefix j l).filter _
theorem selN_lt {l : List EntM} {a z : Int} {j : Nat} (hj : j < l.length) (h : inE a z l[j] = true) : (selN l a z j).length < (selE l a z).length := by
 have h1 := (selN_pre l a z (j + 1)).length_le
 rw [selN_yes hj h, List.length_append, List.length_singleton] at h1
 omega
theorem iEntriesIn_any (x0 x1 : Int) (A : Option Addr) (n cc : Nat) (a z : Int) (w : World) :
    Calls Tryz.prog 260 #[.agg #[.int .i64 x0, .int .i64 x1, .slice A n cc], .int .i64 a, .int .i64 z] w fun e w' => e = .returned (.func (.func 267) #[] #[.pointer (some ⟨w.heap.size, 0, none⟩), .pointer (some ⟨w.heap.size + 1, 0, none⟩), .pointer (some ⟨w.heap.size + 1 + 1, 0, none⟩)]) ∧ w' = ((w.alloc (.cells #[.int .i64 x0, .int .i64 x1, .slice A n cc] 47)).alloc (.cells #[.int .i64 a] 2)).alloc (.cells #[.int .i64 z] 2) := by
 go_enter Tryz.func260, Tryz.ntmps260
 go_wp2
 go_ret
 exact ⟨rfl, rfl⟩
set_option maxHeartbeats 6400000 in
theorem iIter_in (l0 bb bf bl n₀ : Nat) (x0 x1 a z : Int) (A : Option Addr) (n cc : Nat) (es : List EntM) (Kp : World → World → Prop)
    (hKp : ∀ W W', Kp W W' → Below n₀ W W' ∧ W'.heap[bb]? = W.heap[bb]? ∧ W'.heap[bf]? = W.heap[bf]? ∧ W'.heap[bl]? = W.heap[bl]?)
    (J Jx : List EntM → World → Prop) (B9 : Nat) (hJ : AbidesFrom B9 J)
    (hY : ∀ pre x W1, J pre W1 → pre.length < (selE es a z).length → YieldAt Fence.wide (2 - 1) Tryz.prog l0 (encE x) W1 fun e W' => (e = .returned (.bool true) ∧ J (pre ++ [x]) W' ∧ Kp W1 W') ∨ (e = .returned (.bool false) ∧ Jx (pre ++ [x]) W'))
    (W : World) (h0 : Blk W bb #[.int .i64 x0, .int .i64 x1, .slice A n cc] 47) (h1 : Blk W bf #[.int .i64 a] 2) (h2 : Blk W bl #[.int .i64 z] 2)
    (hr : Rd W n₀ [entD es] [.slice A n cc]) (hn : n ≤ 1048577) (hB : n₀ ≤ W.heap.size) (hj0 : J [] W) :
    CallsIn Fence.wide 2 Tryz.prog 267 #[.func (.yield l0) #[] #[], .pointer (some ⟨bb, 0, none⟩), .pointer (some ⟨bf, 0, none⟩), .pointer (some ⟨bl, 0, none⟩)] W fun e W' => (∃ v, e = .returned v) ∧
     ((∃ xs, xs = selE es a z ∧ J xs W') ∨ (∃ pre, (pre <+: selE es a z ∧ pre ≠ []) ∧ Jx pre W')) := by
 refine callsIn_of_wp Tryz.func267 rfl trivial ?_ rfl
 simp only [Tryz.ntmps267, List.size_toArray, List.length_cons, List.length_nil, Nat.reduceAdd, Nat.reduceSub, Array.replicate_succ, Array.replicate_zero, List.push_toArray, List.append_toArray, List.nil_append, List.cons_append]
 have k0 : W.cell? ⟨bb, 2, none⟩ = some (.slice A n cc) := h0.cell 2
 gi_wp2
 gi_loopw [10] (fun i wr => ∃ j : Nat, j ≤ n ∧ i = .int .i64 (j : Int) ∧ J (selN es a z j) wr ∧ Blk wr bf #[.int .i64 a] 2 ∧ Blk wr bl #[.int .i64 z] 2 ∧ Rd wr n₀ [entD es] [.slice A n cc] ∧ n₀ ≤ wr.heap.size) (fun i _ => n - (intOf i).toNat)
 case atStart => exact ⟨0, Nat.zero_le _, rfl, hj0, h1, h2, hr, hB⟩
 case round =>
  obtain ⟨j, hj, rfl, hJs, b1, b2, hrd, hB2⟩ := hrel
  obtain ⟨_, _, _, e, hl, _, _, hel⟩ := hrd.ents
  injection e with e1 e2 e3
  subst e1 e2 e3
  have HJ := jd hJs
  have HR := jd hrd
  have B1 := jd b1
  have B2 := jd b2
  have HB := jd hB2
  have HL := jd hl
  clear h0 h1 h2 hr k0 hj0 hJs hrd hB hB2
  by_cases hlt : j < n
  case neg =>
   obtain rfl : j = n := by omega
   have HV := jd (show selN es a z j = selE es a z by rw [← HL.out, selN_all])
   clear b1 b2 hel hl
   gi_wp2
   go_end0
   exact ⟨⟨_, rfl⟩, .inl ⟨_, HV.out, HJ.out⟩⟩
  case pos =>
   obtain ⟨b, off, rfl, hb, hc⟩ := hel (by omega)
   have hjl : j < es.length := by have := HL.out; omega
   obtain ⟨hc0, hc1, hc2, hc3, hc4, hc5, hc6, hc7, hc8⟩ := hc j hjl
   obtain ⟨x, hx⟩ : ∃ x, x = es[j] := ⟨_, rfl⟩
   rw [← hx] at hc0 hc1 hc2 hc3 hc4 hc5 hc6 hc7 hc8
   have HY1 := jd (show inE a z x = true → selN es a z (j + 1) = selN es a z j ++ [x] from fun h => by rw [hx] at h ⊢; exact selN_yes hjl h)
   have HY0 := jd (show inE a z x = false → selN es a z (j + 1) = selN es a z j from fun h => by rw [hx] at h; exact selN_no hjl h)
   have HLT := jd (show inE a z x = true → (selN es a z j).length < (selE es a z).length from fun h => by rw [hx] at h; exact selN_lt hjl h)
   have HPR := jd (selN_pre es a z (j + 1))
   clear hx hc hel hl hjl
   obtain ⟨e0, e1, e2, e3, e4, e5, e6, e7, e8⟩ := x
   simp only at hc0 hc1 hc2 hc3 hc4 hc5 hc6 hc7 hc8
   have f0 : (wr.alloc (.cells #[.int .i64 e0, .int .i64 e1, .int .i64 e2, .int .i64 e3, .int .i64 e4, .int .i64 e5, .int .i64 e6, .int .i64 e7, .int .i64 e8] 87)).cell? ⟨bf, 0, none⟩ = some (.int .i64 a) := (b1.alloc _).cell 0
   have f1 : (wr.alloc (.cells #[.int .i64 e0, .int .i64 e1, .int .i64 e2, .int .i64 e3, .int .i64 e4, .int .i64 e5, .int .i64 e6, .int .i64 e7, .int .i64 e8] 87)).cell? ⟨bl, 0, none⟩ = some (.int .i64 z) := (b2.alloc _).cell 0
   have g1 := jd (b1.alloc (.cells #[.int .i64 e0, .int .i64 e1, .int .i64 e2, .int .i64 e3, .int .i64 e4, .int .i64 e5, .int .i64 e6, .int .i64 e7, .int .i64 e8] 87))
   have g2 := jd (b2.alloc (.cells #[.int .i64 e0, .int .i64 e1, .int .i64 e2, .int .i64 e3, .int .i64 e4, .int .i64 e5, .int .i64 e6, .int .i64 e7, .int .i64 e8] 87))
   have gr := jd (HR.out.keep ((Below.refl n₀ wr).alloc HB.out (.cells #[.int .i64 e0, .int .i64 e1, .int .i64 e2, .int .i64 e3, .int .i64 e4, .int .i64 e5, .int .i64 e6, .int .i64 e7, .int .i64 e8] 87)))
   have gB := jd (show n₀ ≤ (wr.alloc (.cells #[.int .i64 e0, .int .i64 e1, .int .i64 e2, .int .i64 e3, .int .i64 e4, .int .i64 e5, .int .i64 e6, .int .i64 e7, .int .i64 e8] 87)).heap.size by have := HB.out; simp; omega)
   have gJ := jd (hJ _ _ _ none HJ.out (World.grownBy_alloc wr (.cells #[.int .i64 e0, .int .i64 e1, .int .i64 e2, .int .i64 e3, .int .i64 e4, .int .i64 e5, .int .i64 e6, .int .i64 e7, .int .i64 e8] 87) none) (fun r e => by cases e))
   have HIN := jd (show inE a z ⟨e0, e1, e2, e3, e4, e5, e6, e7, e8⟩ = (decide (a ≤ e0) && decide (e0 ≤ z)) from rfl)
   clear b1 b2
   by_cases d1 : a ≤ e0
   case neg =>
    have d1' : e0 < a := by omega
    have HN := jd (HY0.out (by rw [HIN.out, decide_eq_false d1]; rfl))
    gi_wp2
    refine ⟨fun _ h => (by cases h), ?_⟩
    gi_wp2
    go_roundw
    case rel => exact ⟨j + 1, by omega, by go_num, by rw [HN.out]; exact gJ.out, g1.out, g2.out, gr.out, gB.out⟩
    case measure => simp [intOf]; omega
   case pos =>
    by_cases d2 : e0 ≤ z
    case neg =>
     have d2' : z < e0 := by omega
     have HN := jd (HY0.out (by rw [HIN.out, decide_eq_false d2, Bool.and_false]))
     gi_wp2
     refine ⟨fun _ h => (by cases h), ?_⟩
     gi_wp2
     go_roundw
     case rel => exact ⟨j + 1, by omega, by go_num, by rw [HN.out]; exact gJ.out, g1.out, g2.out, gr.out, gB.out⟩
     case measure => simp [intOf]; omega
    case pos =>
     have HIN1 := jd (show inE a z ⟨e0, e1, e2, e3, e4, e5, e6, e7, e8⟩ = true by rw [HIN.out, decide_eq_true d1, decide_eq_true d2]; rfl)
     have HN := jd (HY1.out HIN1.out)
     obtain ⟨fn, tmps, assign, body, hy, hR⟩ := hY _ ⟨e0, e1, e2, e3, e4, e5, e6, e7, e8⟩ _ gJ.out (HLT.out HIN1.out)
     simp only [encE] at hy
     have HRR := jd hR
     clear hR
     gi_wp2
     refine HRR.out.mono ?_
     rintro e W3 (⟨rfl, hJ3, hk3⟩ | ⟨rfl, hJx3⟩)
     · obtain ⟨q0, _, q1, q2⟩ := hKp _ _ hk3
       have G1 := jd (show Blk W3 bf #[.int .i64 a] 2 from q1.trans g1.out)
       have G2 := jd (show Blk W3 bl #[.int .i64 z] 2 from q2.trans g2.out)
       have GR := jd (gr.out.keep q0)
       have GB := jd (Nat.le_trans gB.out q0.size)
       have G3 := jd hJ3
       clear q0 q1 q2 hk3 hJ3 g1 g2 gr gB gJ HJ HR B1 B2
       gi_wp2
       go_roundw
       case rel => exact ⟨j + 1, by omega, by go_num, by rw [HN.out]; exact G3.out, G1.out, G2.out, GR.out, GB.out⟩
       case measure => simp [intOf]; omega
     · have G3 := jd hJx3
       clear hJx3
       gi_wp2
       refine bodyPost_ret (results_none rfl _ _ _) rfl ?_
       exact ⟨⟨_, rfl⟩, .inr ⟨_, ⟨by rw [← HN.out]; exact HPR.out, by simp⟩, G3.out⟩⟩
theorem iIter_stops (bb bf bl n₀ : Nat) (x0 x1 a z : Int) (A : Option Addr) (n cc : Nat) (es : List EntM) (Kp : World → World → Prop)
    (hKp : ∀ W W', Kp W W' → Below n₀ W W' ∧ W'.heap[bb]? = W.heap[bb]? ∧ W'.heap[bf]? = W.heap[bf]? ∧ W'.heap[bl]? = W.heap[bl]?)
    (w : World) (h0 : Blk w bb #[.int .i64 x0, .int .i64 x1, .slice A n cc] 47) (h1 : Blk w bf #[.int .i64 a] 2) (h2 : Blk w bl #[.int .i64 z] 2)
    (hr : Rd w n₀ [entD es] [.slice A n cc]) (hn : n ≤ 1048577) (hB : n₀ ≤ w.heap.size) :
    SeqStopsK Fence.wide 2 Tryz.prog 267 #[.pointer (some ⟨bb, 0, none⟩), .pointer (some ⟨bf, 0, none⟩), .pointer (some ⟨bl, 0, none⟩)] encE Kp (fun ys => ys = selE es a z) (fun pre => pre <+: selE es a z ∧ pre ≠ []) (selE es a z).length w :=
 fun l J Jx W hW hJ _ hY hj0 =>
  iIter_in l bb bf bl n₀ x0 x1 a z A n cc es Kp hKp J Jx W.heap.size hJ hY W (h0.keep hW h0.lt) (h1.keep hW h1.lt) (h2.keep hW h2.lt) (hr.keep (hW.mono hB)) hn (Nat.le_trans hB hW.size) hj0
end Go.Proofs.YtmjifhjhialcbaaGreat
namespace Go.Proofs.YtmjifhjhialcbaaGreat
set_option maxRecDepth 100000
set_option linter.unusedVariables false
open Go.RowKit
attribute [local go_sem] Oper.semAt_some
theorem ownFrom_blk {β : Type} (B Bx : Nat) (cs : Array Value) (t : TypeId) : OwnFrom B (fun (_ : β) W => Blk W Bx cs t) := fun _ W W' row hs hg hr =>
 (hg.block Bx hs.lt (fun e => by
  obtain ⟨_, o, ho, hc⟩ := hr Bx e.symm
  rw [show W.heap[Bx]? = _ from hs] at ho
  injection ho with ho
  rw [← ho] at hc
  cases hc)).trans hs
theorem below_shut {w W : World} {D : Nat} (c : Below w.heap.size w W) (hD : w.heap.size ≤ D) (hK : W.heap[D]? = some (.deferred (some []))) : Below w.heap.size w (W.putObj D (.deferred none)) :=
 c.trans (belowK_b (w := w) (Nat.le_refl _) W D _ _ hD hK rfl rfl)
def CollG (w : World) (fix : List Item) (b : Nat) (pre : List EntM) (W : World) : Prop := ∃ (G : Option Addr) (m gc : Nat) (fp : List Nat), m = pre.length ∧ Sep W w.heap.size (.own [entD pre] [.slice G m gc] fp :: .blk b #[.slice G m gc] 27 :: fix) ∧ Below w.heap.size w W
theorem collG_own {w : World} {fix : List Item} {b B : Nat} (hB : w.heap.size ≤ B) : OwnFrom B (CollG w fix b) := fun _ _ _ _ hs hg hr => by
 obtain ⟨G, m, gc, fp, h1, h2, h3⟩ := hs
 exact ⟨G, m, gc, fp, h1, h2.turned hg fun r e => (hr r e).2, h3.grown hg h3.size fun k e => Nat.le_trans hB (hr k e).1⟩
theorem CollG.more {w W : World} {fix : List Item} {b : Nat} {pre : List EntM} (h : CollG w fix b pre W) (o : Obj) : CollG w fix b pre (W.alloc o) := by
 obtain ⟨G, m, gc, fp, h1, h2, h3⟩ := h
 exact ⟨G, m, gc, fp, h1, h2.keep ((Below.refl _ _).alloc (Nat.le_refl _) _), h3.alloc h3.size _⟩
set_option maxHeartbeats 6400000 in
theorem iAppendSeq_any (gf : Nat) (lb : Array Value) (xs : List EntM) (Sp : List EntM → Prop) (eg : ∀ args w, (callFunc gf args).run Tryz.prog w = .ok (.enter gf args) w) (w : World) (hlen : xs.length ≤ 1048576)
    (hseq : SeqStopsK Fence.wide 2 Tryz.prog gf lb encE (Below w.heap.size) (fun ys => ys = xs) Sp xs.length w) :
    Calls Tryz.prog 266 #[.slice none 0 0, .func (.func gf) #[] lb] w (MadeEntryS w xs) := by
 refine (callsIn_wide (n := 3)).1 ?_
 refine callsIn_of_wp_marks Tryz.func266 rfl trivial ?_ rfl
 simp only [Tryz.ntmps266, List.size_toArray, List.length_cons, List.length_nil, Nat.reduceAdd, Nat.reduceSub, Array.replicate_succ, Array.replicate_zero, List.push_toArray, List.append_toArray, List.nil_append, List.cons_append]
 gi_wp2
 have S := Sep.nil w w.heap.size
 have c := Below.refl w.heap.size w
 replace S := S.boxAt c.size (w.heap.size) rfl #[.slice none 0 0] 27
 replace c := al c S
 replace S := S.own0 (ds := [entD []]) (vs := [.slice none 0 0]) (ow_nil_ents _)
 refine wpIn_rangeFunc_ownH rfl (by decide) (gf := gf) (lb := lb) rfl trivial eg hseq belowK_t (belowK_b (by simp)) c (fun _ => rfl)
  (CollG w [] w.heap.size)
  (fun _ _ _ => False)
  (collG_own c.size)
  (fun _ _ _ _ _ hs _ _ => hs)
  ⟨none, 0, 0, [], rfl, S, c⟩
  (fun x a' W => ∃ Bx, Blk W Bx #[.int .i64 x.idx, .int .i64 x.tm, .int .i64 x.cl, .int .i64 x.sq, .int .i64 x.kd, .int .i64 x.oa, .int .i64 x.ob, .int .i64 x.oc, .int .i64 x.od] 87 ∧ a' = { tmps := #[.slice none 0 0, .func (.func gf) #[] lb, .pointer (some ⟨w.heap.size, 0, none⟩), undef, .slice none 0 0, .pointer (some ⟨Bx, 0, none⟩), .func (.func gf) #[] lb, .agg #[.int .i64 x.idx, .int .i64 x.tm, .int .i64 x.cl, .int .i64 x.sq, .int .i64 x.kd, .int .i64 x.oa, .int .i64 x.ob, .int .i64 x.oc, .int .i64 x.od], undef, undef, undef, undef, undef], defers := [] })
  ?hAx ?assign ?body ?done ?stop
 case hAx =>
  rintro x a' s W W' row ⟨Bx, h1, h2⟩ hg hr
  exact ⟨Bx, ownFrom_blk (β := Unit) _ _ _ _ () W W' row h1 hg hr, h2⟩
 case assign =>
  rintro l pre x W K hI hK
  simp only [encE]
  gi_wp2
  exact hK _ _ ((KeepsOthers.alloc _ _).from _) ((Below.refl _ W).alloc (by obtain ⟨_, _, _, _, _, _, c⟩ := hI; exact c.size) _) (hI.more _) ⟨W.heap.size, Blk.new _ _ _, rfl⟩
 case body =>
  rintro l pre x a' W hl _ ⟨G, m, gc, fp, hg, S, cI⟩ ⟨Bx, hBx, rfl⟩ hlt
  have hm : m ≤ 1048577 := by
   have hg' : m = pre.length := hg
   omega
  obtain ⟨e0, e1, e2, e3, e4, e5, e6, e7, e8⟩ := x
  simp only at hBx S
  have HG := jd hg
  have X0 := (hBx.cell 0)
  have X1 := (hBx.cell 1)
  have X2 := (hBx.cell 2)
  have X3 := (hBx.cell 3)
  have X4 := (hBx.cell 4)
  have X5 := (hBx.cell 5)
  have X6 := (hBx.cell 6)
  have X7 := (hBx.cell 7)
  have X8 := (hBx.cell 8)
  simp only [List.getElem?_toArray, List.getElem?_cons_zero, List.getElem?_cons_succ] at X0 X1 X2 X3 X4 X5 X6 X7 X8
  have f0 := lk S 1 0 rfl rfl
  have S1 := S.boxAt cI.size (W.heap.size) rfl #[.int .i64 e0, .int .i64 e1, .int .i64 e2, .int .i64 e3, .int .i64 e4, .int .i64 e5, .int .i64 e6, .int .i64 e7, .int .i64 e8] 87
  have c1 := cI.alloc cI.size (.cells #[.int .i64 e0, .int .i64 e1, .int .i64 e2, .int .i64 e3, .int .i64 e4, .int .i64 e5, .int .i64 e6, .int .i64 e7, .int .i64 e8] 87)
  have K1 := jd (KeepsOthers.alloc W (.cells #[.int .i64 e0, .int .i64 e1, .int .i64 e2, .int .i64 e3, .int .i64 e4, .int .i64 e5, .int .i64 e6, .int .i64 e7, .int .i64 e8] 87))
  have Q1 := jd ((Below.refl w.heap.size W).alloc cI.size (.cells #[.int .i64 e0, .int .i64 e1, .int .i64 e2, .int .i64 e3, .int .i64 e4, .int .i64 e5, .int .i64 e6, .int .i64 e7, .int .i64 e8] 87))
  have HC : ∀ i, i < 9 → (W.alloc (.cells #[.int .i64 e0, .int .i64 e1, .int .i64 e2, .int .i64 e3, .int .i64 e4, .int .i64 e5, .int .i64 e6, .int .i64 e7, .int .i64 e8] 87)).cell? ⟨W.heap.size, i, none⟩ = [Value.int .i64 e0, Value.int .i64 e1, Value.int .i64 e2, Value.int .i64 e3, Value.int .i64 e4, Value.int .i64 e5, Value.int .i64 e6, Value.int .i64 e7, Value.int .i64 e8][i]? := fun i hi => by
   have h1 := (S1.at_ 0 rfl).cell i
   rw [h1]
   simp
  replace S1 := (S1.tail).own0 (ds := entC (⟨e0, e1, e2, e3, e4, e5, e6, e7, e8⟩ : EntM)) (vs := [.int .i64 e0, .int .i64 e1, .int .i64 e2, .int .i64 e3, .int .i64 e4, .int .i64 e5, .int .i64 e6, .int .i64 e7, .int .i64 e8]) (.int (.int (.int (.int (.int (.int (.int (.int (.int .nil)))))))))
  replace S1 := S1.swap
  clear hBx S c hg
  gi_wp2_with (first
   | (gi_at_builtin
      refine wpListIn_append_elem (l := pre) (y := (⟨e0, e1, e2, e3, e4, e5, e6, e7, e8⟩ : EntM)) rfl (.tmp 8) (.tmp 10) (by rfl) Tryz.underlying27 infoEntry (by rfl) (by decide) entC_len (by rfl) (S1.own_ 0 rfl) (S1.nodup_own 0 rfl) (by rfl) HC (S1.own_ 1 rfl) (S1.nodup_own 1 rfl) S1.apart (by omega) (by omega) ?_
      intro A3 c3 w3 fp3 o3 n3 s3 t3
      have S3 := S1.merge t3 o3 n3 s3 c1.size
      have g0 := (S3.at_ 1 rfl).cell 0
      have g1 := (S3.at_ 1 rfl).free 0))
  have HS := jd (S3.put 1 rfl 0 (.slice A3 (m + 1) c3))
  have HK := jd ((K1.out.trans (keeps_own t3 (S1.own_ 0 rfl))).trans (KeepsOthers.setCell w3 ⟨w.heap.size, 0, none⟩ (.slice A3 (m + 1) c3)))
  have HQ := jd ((Q1.out.trans (S1.below 0 rfl t3 c1.size)).setCell (p := ⟨w.heap.size, 0, none⟩) (Nat.le_refl _) (.slice A3 (m + 1) c3))
  exact ⟨HK.out.from _, HQ.out, A3, m + 1, c3, fp3, by rw [HG.out, List.length_append, List.length_singleton], HS.out, cI.trans HQ.out⟩
 case done =>
  rintro D ys W hD rfl ⟨G, m, gc, fp, hg, S, cI⟩ hK
  have f0 := lk S 1 0 rfl rfl
  have HS := jd (S.putObj (.deferred none) hK rfl).first
  have HC := jd (below_shut cI (Nat.le_trans (by simp) hD) hK)
  have HK := jd hK
  have HG := jd hg
  clear S cI hK hg
  gi_wp2
  refine ⟨by simp, .inl ⟨_, _, rfl, run_takeDeferred HK.out, ?_⟩⟩
  exact ⟨_, results_tmp rfl _ _ _, G, m, gc, rfl, HS.out, HC.out⟩
 case stop =>
  rintro D c pre W _ _ h _
  exact h.elim
end Go.Proofs.YtmjifhjhialcbaaGreat

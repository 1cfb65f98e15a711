/- Parts of my texts: HeadS7 HeadSC RecB. -/
import Derived.Test.YtecihkkagpbkdaaK20
namespace Go.Proofs.Ytecihkkagpbkdaa
set_option maxRecDepth 100000
set_option linter.unusedVariables false
open Go.RowKit
theorem rightAt_len (t : TwoM) (i : Int) : (rightAt t i).length ≤ 2 := by
 unfold rightAt
 split
 · rw [List.length_append]
   have h1 : (if (rightOf t.a i).2 = true then [(rightOf t.a i).1] else []).length ≤ 1 := by split <;> simp
   have h2 : (if (rightOf t.b i).2 = true ∧ ¬ ((rightOf t.a i).2 = true ∧ (rightOf t.a i).1 = (rightOf t.b i).1) then [(rightOf t.b i).1] else []).length ≤ 1 := by split <;> simp
   omega
 · simp
theorem bestTo_zero (q : Int) (s : HeadM × Bool) (l : List (List Int)) : bestTo q s l 0 = s := by
 unfold bestTo
 rw [List.take_zero]
 rfl
theorem rowHeadM_ok {r : List Int} (h : (rowHeadM r).2 = true) : headOkB (rowHeadM r).1 = true := by
 unfold rowHeadM at h ⊢
 split
 next ht =>
  rw [if_pos ht] at h
  split
  next hk => exact hk
  next hk => rw [if_neg hk] at h; cases h
 next ht => rw [if_neg ht] at h; cases h
theorem rowHead_num {r : List Int} {x : HeadM} {b : Bool} (h : rowHeadM r = (x, b)) (hb : b = true) : 0 ≤ x.num ∧ x.num ≤ 2000 := by
 subst hb
 have h1 := rowHeadM_ok (r := r) (by rw [h])
 rw [h] at h1
 have h2 := (headOkB_iff x).1 h1
 omega
theorem Has.headT {w : World} {base : Nat} {t : HeadM} {v0 v1 v2 v3 : Value} (h : Has w base t.cells [v0, v1, v2, v3]) : v0 = .int .i64 t.num ∧ v1 = .int .i64 t.base ∧ v2 = .int .i64 t.tm ∧ Has w base [mrkD t.seen] [v3] := by
 obtain ⟨fp, o, nd, ge⟩ := h
 obtain ⟨_, _, _, e0, e1, e2, _, _⟩ := o.rd.headT
 obtain ⟨f3, rfl, o3⟩ := Ow.headT o
 rw [List.append_nil] at nd ge
 exact ⟨e0, e1, e2, f3, o3, nd, ge⟩
theorem sRowHead_at (A : Option Addr) (n cc B : Nat) (d : List Int) (w : World) (h : Rd w B (rowCells d) [.slice A n cc]) (hB : B ≤ w.heap.size) :
    Calls Try.prog 58 #[.slice A n cc] w fun e w' => ∃ (z0 z1 z2 : Int) (lz : List MarkM) (ob : Bool) (A2 : Option Addr) (n2 c2 : Nat), rowHeadM d = (⟨z0, z1, z2, lz⟩, ob) ∧ e = .returned (.tuple #[.agg #[.int .i64 z0, .int .i64 z1, .int .i64 z2, .slice A2 n2 c2], .bool ob]) ∧ Has w' w.heap.size [mrkD lz] [.slice A2 n2 c2] ∧ Below w.heap.size w w' := by
 refine (sRowHead_any A n cc B d w h hB).mono ?_
 rintro e w' ⟨z0, z1, z2, A2, n2, c2, rfl, o, b⟩
 obtain ⟨e0, e1, e2, o3⟩ := o.headT
 injection e0 with _ e0
 injection e1 with _ e1
 injection e2 with _ e2
 exact ⟨(rowHeadM d).1.num, (rowHeadM d).1.base, (rowHeadM d).1.tm, (rowHeadM d).1.seen, (rowHeadM d).2, A2, n2, c2, rfl, by rw [e0, e1, e2], o3, b⟩
set_option maxHeartbeats 12800000 in
theorem sHeadIn_any (Aa0 : Option Addr) (na0 ca0 : Nat) (Aa1 : Option Addr) (na1 ca1 : Nat) (Aa2 : Option Addr) (na2 ca2 : Nat) (Aa3 : Option Addr) (na3 ca3 : Nat) (t : TwoM) (w : World) (h : Rd w w.heap.size t.cells [.slice Aa0 na0 ca0, .slice Aa1 na1 ca1, .slice Aa2 na2 ca2, .slice Aa3 na3 ca3]) (hs : t.sz ≤ 1048576) :
    Calls Try.prog 26 #[.agg #[.slice Aa0 na0 ca0, .slice Aa1 na1 ca1, .slice Aa2 na2 ca2, .slice Aa3 na3 ca3]] w fun e w' => ∃ (z0 z1 z2 : Int) (A2 : Option Addr) (n2 c2 : Nat), e = .returned (.tuple #[.agg #[.int .i64 z0, .int .i64 z1, .int .i64 z2, .slice A2 n2 c2], .bool (headInM t).2]) ∧ Has w' w.heap.size (headInM t).1.cells [.int .i64 z0, .int .i64 z1, .int .i64 z2, .slice A2 n2 c2] ∧ Below w.heap.size w w' := by
 have HH := jd h
 clear h
 have S := Sep.nil w w.heap.size
 have c := Below.refl w.heap.size w
 replace S := S.boxAt c.size (w.heap.size) rfl #[.slice Aa0 na0 ca0, .slice Aa1 na1 ca1, .slice Aa2 na2 ca2, .slice Aa3 na3 ca3] 34
 replace c := al c S
 replace S := S.boxAt c.size (w.heap.size + 1) (by simp) #[.int .i64 0, .int .i64 0, .int .i64 0, .slice none 0 0] 59
 replace c := al c S
 replace S := S.boxAt c.size (w.heap.size + 1 + 1) (by simp) #[.int .i64 0, .int .i64 0, .int .i64 0, .slice none 0 0] 59
 replace c := al c S
 go_enter Try.func26, Try.ntmps26
 have f0 := lk S 2 0 rfl rfl
 have f1 := lk S 2 1 rfl rfl
 have f2 := lk S 2 2 rfl rfl
 have f3 := lk S 2 3 rfl rfl
 go_wp2_with fail
 generalize ((w.alloc (.cells #[.slice Aa0 na0 ca0, .slice Aa1 na1 ca1, .slice Aa2 na2 ca2, .slice Aa3 na3 ca3] 34)).alloc (.cells #[.int .i64 0, .int .i64 0, .int .i64 0, .slice none 0 0] 59)).alloc (.cells #[.int .i64 0, .int .i64 0, .int .i64 0, .slice none 0 0] 59) = w1 at *
 refine (sKeptOk_any Aa0 na0 ca0 Aa1 na1 ca1 Aa2 na2 ca2 Aa3 na3 ca3 t _ _ (HH.out.keep c) c.size (by omega)).mono ?_
 rintro e w2 ⟨rfl, b2⟩
 replace c := c.trans (b2.mono c.size)
 replace S := S.keep b2
 clear b2 f0 f1 f2 f3
 cases hk : keptB t
 case false =>
  have HV := jd (show headInM t = (headZ, false) by unfold headInM; rw [hk]; rfl)
  clear hk
  have f4 := lk S 0 0 rfl rfl
  have f5 := lk S 0 1 rfl rfl
  have f6 := lk S 0 2 rfl rfl
  have f7 := lk S 0 3 rfl rfl
  have f8 := lk S 1 0 rfl rfl
  have f9 := (S.at_ 1 rfl).free 0
  have f10 := lk S 1 1 rfl rfl
  have f11 := (S.at_ 1 rfl).free 1
  have f12 := lk S 1 2 rfl rfl
  have f13 := (S.at_ 1 rfl).free 2
  have f14 := lk S 1 3 rfl rfl
  have f15 := (S.at_ 1 rfl).free 3
  replace S := S.put 1 rfl 0 (.int .i64 0)
  replace c := st c S (by omega)
  replace S := S.put 1 rfl 1 (.int .i64 0)
  replace c := st c S (by omega)
  replace S := S.put 1 rfl 2 (.int .i64 0)
  replace c := st c S (by omega)
  replace S := S.put 1 rfl 3 (.slice none 0 0)
  replace c := st c S (by omega)
  have H := jd (has_headZ ((((w2.setCell ⟨w.heap.size + 1, 0, none⟩ (.int .i64 0)).setCell ⟨w.heap.size + 1, 1, none⟩ (.int .i64 0)).setCell ⟨w.heap.size + 1, 2, none⟩ (.int .i64 0)).setCell ⟨w.heap.size + 1, 3, none⟩ (.slice none 0 0)) w.heap.size)
  have r0 := jd ((S.at_ 1 rfl).cell 0)
  have r1 := jd ((S.at_ 1 rfl).cell 1)
  have r2 := jd ((S.at_ 1 rfl).cell 2)
  have r3 := jd ((S.at_ 1 rfl).cell 3)
  have CC := jd c
  clear S c
  go_wp2
  exact bodyPost_ret (v := .tuple #[.agg #[.int .i64 0, .int .i64 0, .int .i64 0, .slice none 0 0], .bool false]) (by simp [results, Try.results26, go_sem, r0.out, r1.out, r2.out, r3.out]) rfl ⟨_, _, _, _, _, _, by rw [HV.out], by rw [HV.out]; exact H.out, CC.out⟩
 case true =>
  have HK := jd (show headInM t = headTo t 2 by unfold headInM; rw [if_pos hk])
  clear hk
  replace S := S.own0 (ow_nil_mrksH _)
  have S0 := jd S
  have B0 := jd c
  clear S c
  go_wp2
  go_loopw [5, 6] (fun sv k wr => ∃ (j : Nat) (x0 x1 x2 : Int) (l : List MarkM) (sm : Bool) (G : Option Addr) (m gc : Nat) (fp : List Nat), j ≤ 2 ∧ k = .int .i64 (j : Int) ∧ ((⟨x0, x1, x2, l⟩, sm) : HeadM × Bool) = headTo t j ∧ sv = .bool sm ∧ Sep wr w.heap.size [.own [mrkD l] [.slice G m gc] fp, .blk (w.heap.size + 1 + 1) #[.int .i64 x0, .int .i64 x1, .int .i64 x2, .slice G m gc] 59, .blk (w.heap.size + 1) #[.int .i64 0, .int .i64 0, .int .i64 0, .slice none 0 0] 59, .blk w.heap.size #[.slice Aa0 na0 ca0, .slice Aa1 na1 ca1, .slice Aa2 na2 ca2, .slice Aa3 na3 ca3] 34] ∧ Below w.heap.size w wr) (fun _ k _ => 2 - (intOf k).toNat)
  case atStart => exact ⟨0, 0, 0, 0, [], false, none, 0, 0, [], Nat.zero_le _, rfl, rfl, rfl, S0.out, B0.out⟩
  case round =>
   obtain ⟨j, x0, x1, x2, l, sm, G, m, gc, fp, hj, rfl, hs9, rfl, S, c⟩ := hrel
   clear S0 B0
   by_cases hlt : j < 2
   case neg =>
    obtain rfl : j = 2 := by omega
    have HV := jd (HK.out.trans hs9.symm)
    clear hs9 hj hlt
    have f4 := lk S 1 0 rfl rfl
    have f5 := lk S 1 1 rfl rfl
    have f6 := lk S 1 2 rfl rfl
    have f7 := lk S 1 3 rfl rfl
    have f8 := lk S 2 0 rfl rfl
    have f9 := (S.at_ 2 rfl).free 0
    have f10 := lk S 2 1 rfl rfl
    have f11 := (S.at_ 2 rfl).free 1
    have f12 := lk S 2 2 rfl rfl
    have f13 := (S.at_ 2 rfl).free 2
    have f14 := lk S 2 3 rfl rfl
    have f15 := (S.at_ 2 rfl).free 3
    replace S := S.put 2 rfl 0 (.int .i64 x0)
    replace c := st c S (by omega)
    replace S := S.put 2 rfl 1 (.int .i64 x1)
    replace c := st c S (by omega)
    replace S := S.put 2 rfl 2 (.int .i64 x2)
    replace c := st c S (by omega)
    replace S := S.put 2 rfl 3 (.slice G m gc)
    replace c := st c S (by omega)
    have H := jd (Has.int (n := x0) (Has.int (n := x1) (Has.int (n := x2) S.first)))
    have r0 := jd ((S.at_ 2 rfl).cell 0)
    have r1 := jd ((S.at_ 2 rfl).cell 1)
    have r2 := jd ((S.at_ 2 rfl).cell 2)
    have r3 := jd ((S.at_ 2 rfl).cell 3)
    have CC := jd c
    clear S c
    go_wp2
    exact bodyPost_ret (v := .tuple #[.agg #[.int .i64 x0, .int .i64 x1, .int .i64 x2, .slice G m gc], .bool sm]) (by simp [results, Try.results26, go_sem, r0.out, r1.out, r2.out, r3.out]) rfl ⟨_, _, _, _, _, _, by rw [HV.out], by rw [HV.out]; exact H.out, CC.out⟩
   case pos =>
    have HLT := jd hlt
    have hdn := jd (show decide ((j : Int) < 2) = true from decide_eq_true (by omega))
    have HS9 := jd hs9
    clear hs9 hj
    have f4 := lk S 3 0 rfl rfl
    have f5 := lk S 3 1 rfl rfl
    have f6 := lk S 3 2 rfl rfl
    have f7 := lk S 3 3 rfl rfl
    go_wp2_with fail
    refine (sRightAt_any Aa0 na0 ca0 Aa1 na1 ca1 Aa2 na2 ca2 Aa3 na3 ca3 t (j : Int) _ ((HH.out.keep c).up c.size) hs).mono ?_
    rintro e w3 ⟨Ar, nr, cr, rfl, o, b⟩
    obtain ⟨fp_ro, S'⟩ := S.has b o c.size
    replace c := c.trans (b.mono c.size)
    clear S; have S := S'; clear S' o b f4 f5 f6 f7
    have HR2 := jd (rightAt_len t (j : Int))
    have HRS := jd (show headTo t (j + 1) = bestTo (j : Int) (headTo t j) (rightAt t (j : Int)) (rightAt t (j : Int)).length from rfl)
    have HB0 := jd (show ((⟨x0, x1, x2, l⟩, sm) : HeadM × Bool) = bestTo (j : Int) (headTo t j) (rightAt t (j : Int)) 0 by rw [bestTo_zero]; exact HS9.out)
    generalize rightAt t (j : Int) = R at *
    have hrl : R.length = nr := by
     obtain ⟨_, _, _, e, hl, _⟩ := Rd.kept (S.own_ 0 rfl).rd
     injection e with e1 e2 e3
     rw [hl, e2]
    have HRN := jd hrl
    have hn2 : nr ≤ 2 := by have := HR2.out; omega
    have S1 := jd S
    have B1 := jd c
    clear S c hrl
    go_wp2
    go_loopw [5, 8] (fun sv iv wr2 => ∃ (i : Nat) (y0 y1 y2 : Int) (ly : List MarkM) (sy : Bool) (Gy : Option Addr) (my gy : Nat) (fy : List Nat), i ≤ nr ∧ iv = .int .i64 (i : Int) ∧ ((⟨y0, y1, y2, ly⟩, sy) : HeadM × Bool) = bestTo (j : Int) (headTo t j) R i ∧ sv = .bool sy ∧ Sep wr2 w.heap.size [.own [keptD R] [.slice Ar nr cr] fp_ro, .own [mrkD ly] [.slice Gy my gy] fy, .blk (w.heap.size + 1 + 1) #[.int .i64 y0, .int .i64 y1, .int .i64 y2, .slice Gy my gy] 59, .blk (w.heap.size + 1) #[.int .i64 0, .int .i64 0, .int .i64 0, .slice none 0 0] 59, .blk w.heap.size #[.slice Aa0 na0 ca0, .slice Aa1 na1 ca1, .slice Aa2 na2 ca2, .slice Aa3 na3 ca3] 34] ∧ Below w.heap.size w wr2) (fun _ iv _ => nr - (intOf iv).toNat)
    case atStart => exact ⟨0, x0, x1, x2, l, sm, G, m, gc, fp, Nat.zero_le _, rfl, HB0.out, rfl, S1.out, B1.out⟩
    case round =>
     obtain ⟨i, y0, y1, y2, ly, sy, Gy, my, gy, fy, hi, rfl, hb9, rfl, S, c⟩ := hrel
     clear S1 B1
     by_cases hik : i < nr
     case neg =>
      have HN := jd (show ((⟨y0, y1, y2, ly⟩, sy) : HeadM × Bool) = headTo t (j + 1) by rw [HRS.out, HRN.out, hb9, show i = nr by omega])
      have SS := jd S.tail
      have CC := jd c
      clear S c hb9
      go_wp2
      go_roundw
      case rel =>
       first
        | exact ⟨j + 1, y0, y1, y2, ly, sy, Gy, my, gy, fy, by have := HLT.out; omega, by go_num, HN.out, rfl, SS.out, CC.out⟩
        | (repeat apply Exists.intro
           refine ⟨⟨j + 1, y0, y1, y2, ly, sy, Gy, my, gy, fy, by have := HLT.out; omega, ?_, HN.out, rfl, SS.out, CC.out⟩, ?_⟩
           rotate_left 1
           · first | rfl | (rw [hdn.out]; done) | (rw [hdn.out]; rfl)
           · go_num)
      case measure => have := HLT.out; simp [intOf] <;> omega
     case pos =>
      have hil : i < R.length := by have := HRN.out; omega
      obtain ⟨_, _, _, e, _, _, _, hel⟩ := Rd.kept (S.own_ 0 rfl).rd
      injection e with e1 e2 e3
      subst e1 e2 e3
      obtain ⟨b, off, rfl, hb, hcc⟩ := hel (by omega)
      obtain ⟨A9, m9, c9, hcell, hrow, hmc, hcM⟩ := hcc i hil
      have hrd : Rd wr wr.heap.size (rowCells R[i]) [.slice A9 m9 c9] := hrow.rd hmc hcM
      have HST := jd (bestTo_step (j : Int) (headTo t j) hil)
      rw [← hb9] at HST
      obtain ⟨d, hd⟩ : ∃ d, d = R[i] := ⟨_, rfl⟩
      rw [← hd] at hrd HST
      have HRD := jd hrd
      have i0 : (0 : Int) ≤ (i : Int) := by omega
      have i1 : (i : Int) < (nr : Int) := by omega
      clear hel hcc hrow hmc hcM hrd hd hb9 hil
      go_wp2_with fail
      refine (sRowHead_at A9 m9 c9 _ d _ HRD.out (Nat.le_refl _)).mono ?_
      rintro e w4 ⟨z0, z1, z2, lz, ob, A2, n2, c2, hrh, rfl, o, b9⟩
      obtain ⟨fp_hs, S'⟩ := S.has b9 o c.size
      replace c := c.trans (b9.mono c.size)
      clear S; have S := S'; clear S' o b9
      clear hcell HRD
      have HBT := jd (show bestTo (j : Int) (headTo t j) R (i + 1) = if ob = true ∧ (z0 % 2 = (j : Int) ∧ (sy = false ∨ y0 < z0)) then ((⟨z0, z1, z2, lz⟩, true) : HeadM × Bool) else (⟨y0, y1, y2, ly⟩, sy) by rw [HST.out]; unfold better; rw [hrh])
      have HOK := jd (show ob = true → 0 ≤ z0 ∧ z0 ≤ 2000 from fun h9 => rowHead_num hrh h9)
      clear HST hrh
      replace S := S.boxAt c.size (w4.heap.size) rfl #[.int .i64 z0, .int .i64 z1, .int .i64 z2, .slice A2 n2 c2] 59
      replace c := al c S
      have f8 := lk S 0 0 rfl rfl
      have f9 := lk S 0 1 rfl rfl
      have f10 := lk S 0 2 rfl rfl
      have f11 := lk S 0 3 rfl rfl
      have f12 := lk S 4 0 rfl rfl
      have f13 := lk S 4 1 rfl rfl
      have f14 := lk S 4 2 rfl rfl
      have f15 := lk S 4 3 rfl rfl
      cases ob
      case false =>
       have HN := jd (HBT.out.trans (if_neg (by rintro ⟨h9, _⟩; cases h9)))
       clear HBT HOK
       replace S := S.sub (.cons _ (.cons _ (.cons_cons _ (.cons_cons _ (.cons_cons _ (.cons_cons _ (.cons_cons _ (List.nil_sublist _))))))))
       have SS := jd S
       have CC := jd c
       clear S c
       go_wp2
       go_roundw
       case rel => exact ⟨i + 1, y0, y1, y2, ly, _, Gy, my, gy, fy, by omega, by go_num, HN.out.symm, rfl, SS.out, CC.out⟩
       case measure => simp [intOf] <;> omega
      case true =>
       have hzn := HOK.out rfl
       have ht : z0.tmod 2 = z0 % 2 := Int.tmod_eq_emod_of_nonneg hzn.1
       have hw0 : IntKind.i64.wrap (z0 % 2) = z0 % 2 := by rw [IntKind.wrap_i64]; omega
       clear HOK hzn
       by_cases hq : z0 % 2 = (j : Int)
       case neg =>
        have HN := jd (HBT.out.trans (if_neg (by rintro ⟨_, h9, _⟩; exact hq h9)))
        have e1 : (z0 % 2 == (j : Int)) = false := by simpa using hq
        clear hq HBT
        replace S := S.sub (.cons _ (.cons _ (.cons_cons _ (.cons_cons _ (.cons_cons _ (.cons_cons _ (.cons_cons _ (List.nil_sublist _))))))))
        have SS := jd S
        have CC := jd c
        clear S c
        go_wp2
        go_roundw
        case rel => exact ⟨i + 1, y0, y1, y2, ly, _, Gy, my, gy, fy, by omega, by go_num, HN.out.symm, rfl, SS.out, CC.out⟩
        case measure => simp [intOf] <;> omega
       case pos =>
        have HQ := jd hq
        obtain ⟨e0, he0⟩ : ∃ q, q = z0 % 2 := ⟨_, rfl⟩
        have e1 : (z0 % 2 == (j : Int)) = true := by simpa using hq
        clear he0 hq
        cases sy
        case false =>
         have HN := jd (HBT.out.trans (if_pos (by exact ⟨rfl, HQ.out, Or.inl rfl⟩)))
         clear HBT HQ
         have f16 := lk S 4 0 rfl rfl
         have f17 := (S.at_ 4 rfl).free 0
         have f18 := lk S 4 1 rfl rfl
         have f19 := (S.at_ 4 rfl).free 1
         have f20 := lk S 4 2 rfl rfl
         have f21 := (S.at_ 4 rfl).free 2
         have f22 := lk S 4 3 rfl rfl
         have f23 := (S.at_ 4 rfl).free 3
         replace S := S.put 4 rfl 0 (.int .i64 z0)
         replace c := st c S (by omega)
         replace S := S.put 4 rfl 1 (.int .i64 z1)
         replace c := st c S (by omega)
         replace S := S.put 4 rfl 2 (.int .i64 z2)
         replace c := st c S (by omega)
         replace S := S.put 4 rfl 3 (.slice A2 n2 c2)
         replace c := st c S (by omega)
         replace S := S.sub (.cons _ (.cons_cons _ (.cons_cons _ (.cons _ (.cons_cons _ (.cons_cons _ (.cons_cons _ (List.nil_sublist _))))))))
         replace S := S.pick 1 rfl
         have SS := jd S
         have CC := jd c
         clear S c
         go_wp2
         go_roundw
         case rel => exact ⟨i + 1, z0, z1, z2, lz, _, A2, n2, c2, fp_hs, by omega, by go_num, HN.out.symm, rfl, SS.out, CC.out⟩
         case measure => simp [intOf] <;> omega
        case true =>
         by_cases hg : y0 < z0
         case neg =>
          have HN := jd (HBT.out.trans (if_neg (by rintro ⟨_, _, h9⟩; exact h9.elim (fun h8 => by cases h8) hg)))
          have e2 : decide (z0 > y0) = false := decide_eq_false (by omega)
          have e3 : decide (y0 < z0) = false := decide_eq_false hg
          clear HBT HQ hg
          replace S := S.sub (.cons _ (.cons _ (.cons_cons _ (.cons_cons _ (.cons_cons _ (.cons_cons _ (.cons_cons _ (List.nil_sublist _))))))))
          have SS := jd S
          have CC := jd c
          clear S c
          go_wp2
          go_roundw
          case rel => exact ⟨i + 1, y0, y1, y2, ly, _, Gy, my, gy, fy, by omega, by go_num, HN.out.symm, rfl, SS.out, CC.out⟩
          case measure => simp [intOf] <;> omega
         case pos =>
          have HN := jd (HBT.out.trans (if_pos (by exact ⟨rfl, HQ.out, Or.inr hg⟩)))
          have e2 : decide (z0 > y0) = true := decide_eq_true (by omega)
          have e3 : decide (y0 < z0) = true := decide_eq_true hg
          clear HBT HQ hg
          have f16 := lk S 4 0 rfl rfl
          have f17 := (S.at_ 4 rfl).free 0
          have f18 := lk S 4 1 rfl rfl
          have f19 := (S.at_ 4 rfl).free 1
          have f20 := lk S 4 2 rfl rfl
          have f21 := (S.at_ 4 rfl).free 2
          have f22 := lk S 4 3 rfl rfl
          have f23 := (S.at_ 4 rfl).free 3
          replace S := S.put 4 rfl 0 (.int .i64 z0)
          replace c := st c S (by omega)
          replace S := S.put 4 rfl 1 (.int .i64 z1)
          replace c := st c S (by omega)
          replace S := S.put 4 rfl 2 (.int .i64 z2)
          replace c := st c S (by omega)
          replace S := S.put 4 rfl 3 (.slice A2 n2 c2)
          replace c := st c S (by omega)
          replace S := S.sub (.cons _ (.cons_cons _ (.cons_cons _ (.cons _ (.cons_cons _ (.cons_cons _ (.cons_cons _ (List.nil_sublist _))))))))
          replace S := S.pick 1 rfl
          have SS := jd S
          have CC := jd c
          clear S c
          go_wp2
          go_roundw
          case rel => exact ⟨i + 1, z0, z1, z2, lz, _, A2, n2, c2, fp_hs, by omega, by go_num, HN.out.symm, rfl, SS.out, CC.out⟩
          case measure => simp [intOf] <;> omega
theorem sKeptOk_c : CKeptOk 9 := fun Aa0 na0 ca0 Aa1 na1 ca1 Aa2 na2 ca2 Aa3 na3 ca3 t w h hs => sKeptOk_any Aa0 na0 ca0 Aa1 na1 ca1 Aa2 na2 ca2 Aa3 na3 ca3 t _ w h (Nat.le_refl _) hs
theorem sNewKept_c : CNewKept 13 := fun w => sNewKept_any w
theorem sKeptEntry_c : CKeptEntry 17 := fun Aa0 na0 ca0 Aa1 na1 ca1 Aa2 na2 ca2 Aa3 na3 ca3 t x0 x1 x2 x3 x4 x5 x6 x7 x8 w h hs => sKeptEntry_any Aa0 na0 ca0 Aa1 na1 ca1 Aa2 na2 ca2 Aa3 na3 ca3 t x0 x1 x2 x3 x4 x5 x6 x7 x8 w h hs
theorem sKeptHead_c : CKeptHead 21 := fun Aa0 na0 ca0 Aa1 na1 ca1 Aa2 na2 ca2 Aa3 na3 ca3 t x0 x1 x2 A n cc l w h hs h2 hs2 => sKeptHead_any Aa0 na0 ca0 Aa1 na1 ca1 Aa2 na2 ca2 Aa3 na3 ca3 t x0 x1 x2 A n cc l w h hs h2 hs2
theorem sHeadIn_c : CHeadIn 26 := fun Aa0 na0 ca0 Aa1 na1 ca1 Aa2 na2 ca2 Aa3 na3 ca3 t w h hs => sHeadIn_any Aa0 na0 ca0 Aa1 na1 ca1 Aa2 na2 ca2 Aa3 na3 ca3 t w h hs
theorem op_bd {o : OpM} (h : opB o = true) : (0 ≤ o.kind ∧ o.kind ≤ 5) ∧ (0 ≤ o.a ∧ o.a ≤ 1000) ∧ (0 ≤ o.b ∧ o.b ≤ 1000000) ∧ (0 ≤ o.c ∧ o.c ≤ 9) ∧ (0 ≤ o.d ∧ o.d ≤ 999) := by
 unfold opB at h
 split at h
 next => simp only [Bool.and_eq_true, inB_iff, decide_eq_true_eq] at h; omega
 next =>
  split at h
  next => simp only [Bool.and_eq_true, inB_iff, decide_eq_true_eq] at h; omega
  next =>
   split at h
   next => simp only [Bool.and_eq_true, inB_iff] at h; omega
   next =>
    split at h
    next => simp only [Bool.and_eq_true, inB_iff, decide_eq_true_eq] at h; omega
    next =>
     split at h
     next => simp only [Bool.and_eq_true, inB_iff, decide_eq_true_eq] at h; omega
     next => cases h
theorem rowOk_mk {r : List Int} (hl : r.length ≤ 48) (h : ∀ x ∈ r, 0 ≤ x ∧ x ≤ 1000000) : rowOk r = true := rowOk_iffS.2 ⟨hl, fun x hx => by have := h x hx; omega⟩
theorem ent_bd {e : EntM} (h : entB e = true) : ∀ x ∈ entNs e ++ [e.idx, e.idx], 0 ≤ x ∧ x ≤ 1000000 := by
 obtain ⟨h1, h2, h3, h4, h5⟩ := (entB_iff e).1 h
 obtain ⟨o1, o2, o3, o4, o5⟩ := op_bd h5
 have q1 : e.op.kind = e.kd := rfl
 have q2 : e.op.a = e.oa := rfl
 have q3 : e.op.b = e.ob := rfl
 have q4 : e.op.c = e.oc := rfl
 have q5 : e.op.d = e.od := rfl
 rw [q1] at o1; rw [q2] at o2; rw [q3] at o3; rw [q4] at o4; rw [q5] at o5
 intro x hx
 simp only [entNs, List.cons_append, List.nil_append, List.mem_cons, List.not_mem_nil, or_false] at hx
 rcases hx with rfl | rfl | rfl | rfl | rfl | rfl | rfl | rfl | rfl | rfl | rfl <;> omega
theorem rowHead_len {r : List Int} (h : r.length ≠ 13) : rowHeadM r = (headZ, false) := by
 unfold rowHeadM
 rw [if_neg (by rw [twice_no (fun h9 => h (by have := h9.1; omega))]; decide)]
theorem findM_bd {l : List MarkM} (h : seenB l = true) (c : Int) : (0 ≤ (findM l c).ms ∧ (findM l c).ms ≤ 2000) ∧ (0 ≤ (findM l c).mi ∧ (findM l c).mi ≤ 2000) := by
 unfold findM
 cases hf : l.find? fun x => x.mc == c with
 | none => exact ⟨by decide, by decide⟩
 | some m =>
  have := (markB_iff m).1 ((seen_pairs h).1 m (List.mem_of_find?_eq_some hf))
  show (0 ≤ m.ms ∧ m.ms ≤ 2000) ∧ (0 ≤ m.mi ∧ m.mi ≤ 2000)
  omega
theorem markOf_find {l : List MarkM} (h : seenB l = true) (c : Int) : markOf l c = findM l c := by unfold markOf; rw [if_pos h]
theorem markNs_bd {l : List MarkM} (h : seenB l = true) : ∀ k, ∀ x ∈ markNs l k, 0 ≤ x ∧ x ≤ 2000
 | 0, x, hx => by cases hx
 | k + 1, x, hx => by
  rcases List.mem_append.1 (show x ∈ markNs l k ++ _ from hx) with hx | hx
  · exact markNs_bd h k x hx
  · have := findM_bd h (2 + (k : Int))
    rw [markOf_find h] at hx
    simp only [List.mem_cons, List.not_mem_nil, or_false] at hx
    rcases hx with rfl | rfl <;> omega
theorem headRow_yes {h : HeadM} (ho : headOkB h = true) : headRowM h = ([h.num, h.base, h.tm] ++ markNs h.seen 4) ++ [h.num, h.num] := by unfold headRowM; rw [if_pos ho]
theorem headRow_ok {h : HeadM} (ho : headOkB h = true) : rowOk (headRowM h) = true ∧ (headRowM h).length = 13 := by
 obtain ⟨h1, h2, h3, _, h5, _⟩ := (headOkB_iff h).1 ho
 rw [headRow_yes ho]
 refine ⟨rowOk_mk (by simp [markNs_len]) fun x hx => ?_, by simp [markNs_len]⟩
 simp only [List.mem_append, List.mem_cons, List.not_mem_nil, or_false] at hx
 rcases hx with ((rfl | rfl | rfl) | hx) | (rfl | rfl)
 · omega
 · omega
 · omega
 · have := markNs_bd h5 4 x hx; omega
 · omega
 · omega
theorem markNs_at (l : List MarkM) : ∀ k j, j < k → (markNs l k).getD (2 * j) 0 = (markOf l (2 + (j : Int))).ms ∧ (markNs l k).getD (2 * j + 1) 0 = (markOf l (2 + (j : Int))).mi
 | 0, j, h => absurd h (by omega)
 | k + 1, j, h => by
  have hl := markNs_len l k
  show ((markNs l k ++ _).getD (2 * j) 0 = _) ∧ ((markNs l k ++ _).getD (2 * j + 1) 0 = _)
  by_cases hj : j < k
  · have ih := markNs_at l k j hj
    rw [List.getD_eq_getElem?_getD, List.getD_eq_getElem?_getD, List.getElem?_append_left (by omega), List.getElem?_append_left (by omega), ← List.getD_eq_getElem?_getD, ← List.getD_eq_getElem?_getD]
    exact ih
  · obtain rfl : j = k := by omega
    rw [List.getD_eq_getElem?_getD, List.getD_eq_getElem?_getD, List.getElem?_append_right (by omega), List.getElem?_append_right (by omega), hl, Nat.sub_self, show 2 * j + 1 - 2 * j = 1 by omega]
    exact ⟨rfl, rfl⟩
theorem headRow_mark {h : HeadM} (ho : headOkB h = true) {k : Nat} (hk : k < 4) : markIn (headRowM h) k = ⟨2 + (k : Int), (findM h.seen (2 + (k : Int))).ms, (findM h.seen (2 + (k : Int))).mi⟩ := by
 have h5 := ((headOkB_iff h).1 ho).2.2.2.2.1
 have h6 := markNs_at h.seen 4 k hk
 have hl := markNs_len h.seen 4
 rw [headRow_yes ho]
 unfold markIn
 have e : ∀ q, q < 8 → (([h.num, h.base, h.tm] ++ markNs h.seen 4) ++ [h.num, h.num]).getD (q + 3) 0 = (markNs h.seen 4).getD q 0 := fun q hq => by
  rw [List.getD_eq_getElem?_getD, List.getD_eq_getElem?_getD, List.append_assoc, List.getElem?_append_right (by simp), List.getElem?_append_left (by simp; omega)]
  simp
 rw [e (2 * k) (by omega), show 2 * k + 4 = (2 * k + 1) + 3 by omega, e (2 * k + 1) (by omega), h6.1, h6.2, markOf_find h5]
theorem marks_front {l : List MarkM} (h : seenB l = true) (k : Nat) : (l.filter fun m => decide (m.mc < 2 + ((k + 1 : Nat) : Int))) = (l.filter fun m => decide (m.mc < 2 + (k : Int))) ++ (l.filter fun m => decide (m.mc = 2 + (k : Int))) := by
 have hp := (seen_pairs h).2.1
 clear h
 induction l with
 | nil => rfl
 | cons a t ih =>
  obtain ⟨h1, h2⟩ := List.pairwise_cons.1 hp
  have h3 := ih h2
  have P : ∀ (p : MarkM → Bool), p a = true → (a :: t).filter p = a :: t.filter p := fun p hp => List.filter_cons_of_pos hp
  have N : ∀ (p : MarkM → Bool), ¬ p a = true → (a :: t).filter p = t.filter p := fun p hp => List.filter_cons_of_neg hp
  by_cases e1 : a.mc < 2 + (k : Int)
  · rw [P (fun m => decide (m.mc < 2 + ((k + 1 : Nat) : Int))) (by simp; omega), P (fun m => decide (m.mc < 2 + (k : Int))) (by simpa using e1), N (fun m => decide (m.mc = 2 + (k : Int))) (by simp; omega), h3]
    rfl
  · by_cases e2 : a.mc = 2 + (k : Int)
    · have h4 : (t.filter fun m => decide (m.mc < 2 + (k : Int))) = [] := List.filter_eq_nil_iff.2 fun m hm => by have := h1 m hm; simp; omega
      rw [P (fun m => decide (m.mc < 2 + ((k + 1 : Nat) : Int))) (by simp; omega), N (fun m => decide (m.mc < 2 + (k : Int))) (by simpa using e1), P (fun m => decide (m.mc = 2 + (k : Int))) (by simpa using e2), h3, h4]
      rfl
    · rw [N (fun m => decide (m.mc < 2 + ((k + 1 : Nat) : Int))) (by simp; omega), N (fun m => decide (m.mc < 2 + (k : Int))) (by simpa using e1), N (fun m => decide (m.mc = 2 + (k : Int))) (by simpa using e2), h3]
theorem filter_solo {l : List MarkM} (h : seenB l = true) (c : Int) : (l.filter fun m => decide (m.mc = c)) = if (findM l c).ms ≠ 0 ∨ (findM l c).mi ≠ 0 then [⟨c, (findM l c).ms, (findM l c).mi⟩] else [] := by
 have hp := (seen_pairs h).2.1
 have hb := (seen_pairs h).1
 clear h
 unfold findM
 induction l with
 | nil => rfl
 | cons a t ih =>
  obtain ⟨h1, h2⟩ := List.pairwise_cons.1 hp
  by_cases e : a.mc = c
  · have h4 : (t.filter fun m => decide (m.mc = c)) = [] := List.filter_eq_nil_iff.2 fun m hm => by have := h1 m hm; simp; omega
    have h5 := (markB_iff a).1 (hb a (by simp))
    rw [List.filter_cons, if_pos (by simpa using e), h4, List.find?_cons, show (a.mc == c) = true by simpa using e]
    show [a] = if a.ms ≠ 0 ∨ a.mi ≠ 0 then [⟨c, a.ms, a.mi⟩] else []
    rw [if_pos (Or.inl (by omega)), ← e]
  · rw [List.filter_cons, if_neg (by simpa using e), List.find?_cons, show (a.mc == c) = false by simpa using e]
    exact ih h2 fun m hm => hb m (List.mem_cons_of_mem _ hm)
theorem head_marks {h : HeadM} (ho : headOkB h = true) : ofMarks (headRowM h) 4 = h.seen := by
 have h5 := ((headOkB_iff h).1 ho).2.2.2.2.1
 have h6 : ∀ k, k ≤ 4 → ofMarks (headRowM h) k = h.seen.filter fun m => decide (m.mc < 2 + (k : Int)) := by
  intro k
  induction k with
  | zero =>
   intro _
   symm
   refine List.filter_eq_nil_iff.2 fun m hm => ?_
   have := (markB_iff m).1 ((seen_pairs h5).1 m hm)
   simp
   omega
  | succ k ih =>
   intro hk
   rw [marks_front h5, ← ih (by omega), filter_solo h5]
   show ofMarks (headRowM h) k ++ _ = _
   rw [headRow_mark ho (show k < 4 by omega)]
 rw [h6 4 (Nat.le_refl _)]
 refine List.filter_eq_self.2 fun m hm => ?_
 have := (markB_iff m).1 ((seen_pairs h5).1 m hm)
 simp
 omega
theorem head_back {h : HeadM} (ho : headOkB h = true) : rowHeadM (headRowM h) = (h, true) := by
 have hl := markNs_len h.seen 4
 have e0 : (headRowM h).getD 0 0 = h.num := by rw [headRow_yes ho]; rfl
 have e11 : (headRowM h).getD 11 0 = h.num := by
  rw [headRow_yes ho, List.getD_eq_getElem?_getD, List.getElem?_append_right (by simp [hl])]
  simp [hl]
 have e12 : (headRowM h).getD 12 0 = h.num := by
  rw [headRow_yes ho, List.getD_eq_getElem?_getD, List.getElem?_append_right (by simp [hl])]
  simp [hl]
 have e : ofHead (headRowM h) = h := by
  unfold ofHead
  rw [head_marks ho, e0, show (headRowM h).getD 1 0 = h.base by rw [headRow_yes ho]; rfl, show (headRowM h).getD 2 0 = h.tm by rw [headRow_yes ho]; rfl]
 unfold rowHeadM
 rw [if_pos ((twice_iff _ _).2 ⟨(headRow_ok ho).2, by rw [e0, e11], by rw [e0, e12]⟩), e, if_pos ho]
end Go.Proofs.Ytecihkkagpbkdaa

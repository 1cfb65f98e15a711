/- Parts of my texts: MarkI8 TwoI1. -/
import Derived.Test.YtmjifhjhialcbaaGreatK31
import Derived.LoopN
namespace Go.Proofs.YtmjifhjhialcbaaGreat
set_option maxRecDepth 100000
set_option linter.unusedVariables false
open Go.RowKit
theorem seen_w64 {l : List MarkM} (h : seenB l = true) : ∀ m ∈ l, w64 m.mi := fun m hm => mark_w64 ((seen_pairs h).1 m hm)
theorem iTable_ok (A : Option Addr) (n cc B : Nat) (l : List MarkM) (w : World) (h : Rd w B [mrkD l] [.slice A n cc]) (hB : B ≤ w.heap.size) (hs : mrkSz l ≤ 1048577) (hok : seenB l = true) :
    Calls Tryz.prog 129 #[.slice A n cc] w fun e w' => e = .returned (.map (some w.heap.size)) ∧ Tab w' w.heap.size l ∧ Below w.heap.size w w' := by
 have := iTable_any A n cc B l w h hB hs (seen_w64 hok)
 rw [tabOf_apart (seen_apart hok)] at this
 exact this
set_option maxHeartbeats 6400000 in
theorem iLastSeen_any (A : Option Addr) (n cc B : Nat) (l : List MarkM) (w : World) (h : Rd w B [mrkD l] [.slice A n cc]) (hB : B ≤ w.heap.size) (hs : mrkSz l ≤ 1048577) :
    Calls Tryz.prog 77 #[.slice A n cc] w fun e w' => e = .returned (.int .i64 (lastS l)) ∧ Below w.heap.size w w' := by
 have hc := iSeen_any A n cc B l w h hB hs
 have HH := jd h
 cases hok : seenB l
 case false =>
  have HV := jd (show lastS l = 0 by unfold lastS; rw [hok]; rfl)
  rw [hok] at hc
  clear h hok
  go_enter Tryz.func77, Tryz.ntmps77
  go_wp2_with fail
  refine hc.mono ?_
  rintro e w2 ⟨rfl, b2⟩
  go_wp2
  go_ret
  exact ⟨by first | (rw [HV.out]; done) | (rw [HV.out]; rfl), b2⟩
 case true =>
  have HV := jd (show lastS l = maxTo l l.length by unfold lastS; rw [hok]; rfl)
  have HO := jd hok
  rw [hok] at hc
  clear h hok
  go_enter Tryz.func77, Tryz.ntmps77
  go_wp2_with fail
  refine hc.mono ?_
  rintro e w2 ⟨rfl, b2⟩
  have ht := iTable_ok A n cc B l w2 (HH.out.keep (b2.mono hB)) (Nat.le_trans hB b2.size) hs HO.out
  have B2 := jd b2
  clear b2
  go_wp2_with fail
  refine ht.mono ?_
  rintro e w3 ⟨rfl, t3, b3⟩
  have hl := iLast_any w2.heap.size l w3 t3
  have B3 := jd (B2.out.trans (b3.mono B2.out.size))
  clear b3 t3 ht
  go_wp2_with fail
  refine hl.mono ?_
  rintro e w4 ⟨rfl, b4⟩
  have B4 := jd (B3.out.trans (b4.mono B3.out.size))
  clear b4
  go_wp2
  go_ret
  exact ⟨by first | (rw [HV.out]; done) | (rw [HV.out]; rfl), B4.out⟩
theorem fold_ins (l : List MarkM) (e : EntM) : overM l [e] = insM l ⟨e.cl, e.sq, e.idx⟩ := rfl
theorem over_one (l : List MarkM) (e : EntM) : seenOverM l [e] = markedM l e := by
 have h : overB l [e] = mayB l e := by
  unfold overB
  show ((List.range 1).all (overAt l [e])) = _
  simp [List.range_succ, overAt, overM]
 unfold seenOverM markedM
 rw [h, if_pos (show [e].length ≤ 2000 from (by decide : (1 : Nat) ≤ 2000)), fold_ins]
set_option maxHeartbeats 6400000 in
theorem iSeenOver_any (A A5 : Option Addr) (n cc n5 c5 B : Nat) (l : List MarkM) (es : List EntM) (w : World) (h : Rd w B [mrkD l] [.slice A n cc]) (hB : B ≤ w.heap.size) (hs : mrkSz l ≤ 1048577) (h5 : Rd w B [entD es] [.slice A5 n5 c5]) (hs5 : entSz es ≤ 1048577) :
    Calls Tryz.prog 233 #[.slice A n cc, .slice A5 n5 c5] w (MadeMB w (seenOverM l es)) := by
 have hc := iSeen_any A n cc B l w h hB hs
 have HH := jd h
 have H5 := jd h5
 have hl5 : es.length = n5 := by
  obtain ⟨_, _, _, e, hl, _⟩ := h5.ents
  injection e with e1 e2 e3
  rw [hl, e2]
 have HL := jd hl5
 have hn5 : n5 ≤ 1048577 := by unfold entSz at hs5; omega
 cases hok : seenB l
 case false =>
  have HV := jd (show seenOverM l es = ([], false) by unfold seenOverM; rw [hok]; rfl)
  rw [hok] at hc
  clear h h5 hok hl5
  go_enter Tryz.func233, Tryz.ntmps233
  go_wp2_with fail
  refine hc.mono ?_
  rintro e w2 ⟨rfl, b2⟩
  go_wp2
  go_ret2
  exact ⟨none, 0, 0, by first | (rw [HV.out]; done) | (rw [HV.out]; rfl), by rw [HV.out]; exact ⟨[], ow_nil_mrks _, List.nodup_nil, fun p hp => by cases hp⟩, b2⟩
 case true =>
  have HO := jd hok
  rw [hok] at hc
  clear h h5 hok hl5
  go_enter Tryz.func233, Tryz.ntmps233
  go_wp2_with fail
  refine hc.mono ?_
  rintro e w2 ⟨rfl, b2⟩
  have ht := iTable_ok A n cc B l w2 (HH.out.keep (b2.mono hB)) (Nat.le_trans hB b2.size) hs HO.out
  have B2 := jd b2
  clear b2 hc
  go_wp2_with fail
  refine ht.mono ?_
  rintro e w3 ⟨rfl, t3, b3⟩
  have B3 := jd (B2.out.trans (b3.mono B2.out.size))
  have T3 := jd t3
  clear b3 t3 ht
  by_cases hlong : 2000 < n5
  case pos =>
   have g0 : decide ((2000 : Int) < (n5 : Int)) = true := decide_eq_true (by omega)
   have g1 : decide (2000 < n5) = true := decide_eq_true hlong
   have HV := jd (show seenOverM l es = (l, false) by unfold seenOverM; rw [HO.out, if_pos rfl, if_neg (by have := HL.out; omega)])
   have ht := iTable_ok A n cc B l w3 (HH.out.keep (B3.out.mono hB)) (Nat.le_trans hB B3.out.size) hs HO.out
   clear hlong
   go_wp2_with (first | (go_at_call 129; refine ht.mono ?_; rintro e w4 ⟨rfl, t4, b4⟩; have hm := iMarks_any w3.heap.size l w4 t4 HO.out; have B4 := jd (B3.out.trans (b4.mono B3.out.size)); clear b4 t4) | (go_at_call 249; refine hm.mono ?_; rintro e w5 ⟨A6, n6, c6, rfl, h6, b6⟩; have H6 := jd (h6.up B4.out.size); have B6 := jd (B4.out.trans (b6.mono B4.out.size)); clear h6 b6))
   go_ret2
   exact ⟨A6, n6, c6, by first | (rw [HV.out]; done) | (rw [HV.out]; rfl), by rw [HV.out]; exact H6.out, B6.out⟩
  case neg =>
   have g0 : decide ((2000 : Int) < (n5 : Int)) = false := decide_eq_false (by omega)
   have g1 : decide (2000 < n5) = false := decide_eq_false hlong
   have hr := iRecordAll_tab w2.heap.size w.heap.size l A5 n5 c5 B es w3 T3.out HO.out (H5.out.keep (B3.out.mono hB)) hn5 B2.out.size B3.out.size hB
   have HLE := jd (show es.length ≤ 2000 by have := HL.out; omega)
   clear hlong
   cases hov : overB l es
   case false =>
    have HV := jd (show seenOverM l es = (l, false) by unfold seenOverM; rw [HO.out, if_pos rfl, if_pos HLE.out, hov]; rfl)
    rw [hov] at hr
    clear hov
    go_wp2_with (first
     | (go_at_call 248; refine hr.mono ?_; rintro e w4 ⟨rfl, _, b4⟩; have B4 := jd (B3.out.trans b4); have ht := iTable_ok A n cc B l w4 (HH.out.keep (B4.out.mono hB)) (Nat.le_trans hB B4.out.size) hs HO.out; clear b4)
     | (go_at_call 129; refine ht.mono ?_; rintro e w5 ⟨rfl, t5, b5⟩; have hm := iMarks_any w4.heap.size l w5 t5 HO.out; have B5 := jd (B4.out.trans (b5.mono B4.out.size)); clear b5 t5)
     | (go_at_call 249; refine hm.mono ?_; rintro e w6 ⟨A6, n6, c6, rfl, h6, b6⟩; have H6 := jd (h6.up B5.out.size); have B6 := jd (B5.out.trans (b6.mono B5.out.size)); clear h6 b6))
    go_ret2
    exact ⟨A6, n6, c6, by first | (rw [HV.out]; done) | (rw [HV.out]; rfl), by rw [HV.out]; exact H6.out, B6.out⟩
   case true =>
    have HV := jd (show seenOverM l es = (overM l es, true) by unfold seenOverM; rw [HO.out, if_pos rfl, if_pos HLE.out, hov]; rfl)
    have HN := jd (show seenB (overM l es) = true by
     have h1 := over_ok HO.out es.length (Nat.le_refl _) ((overB_iff l es).1 hov)
     rwa [List.take_length] at h1)
    rw [hov] at hr
    clear hov
    go_wp2_with fail
    refine hr.mono ?_
    rintro e w4 ⟨rfl, t4, b4⟩
    have B4 := jd (B3.out.trans b4)
    have hm := iMarks_any w2.heap.size (overM l es) w4 (t4 (by simp)) HN.out
    clear b4 t4 hr
    go_wp2_with fail
    refine hm.mono ?_
    rintro e w6 ⟨A6, n6, c6, rfl, h6, b6⟩
    have H6 := jd (h6.up B4.out.size)
    have B6 := jd (B4.out.trans (b6.mono B4.out.size))
    clear h6 b6 hm
    go_wp2
    go_ret2
    exact ⟨A6, n6, c6, by first | (rw [HV.out]; done) | (rw [HV.out]; rfl), by rw [HV.out]; exact H6.out, B6.out⟩
set_option maxHeartbeats 6400000 in
theorem iMarked_any (A : Option Addr) (n cc B : Nat) (l : List MarkM) (e0 e1 e2 e3 e4 e5 e6 e7 e8 : Int) (w : World) (h : Rd w B [mrkD l] [.slice A n cc]) (hB : B ≤ w.heap.size) (hs : mrkSz l ≤ 1048577) :
    Calls Tryz.prog 193 #[.slice A n cc, .agg #[.int .i64 e0, .int .i64 e1, .int .i64 e2, .int .i64 e3, .int .i64 e4, .int .i64 e5, .int .i64 e6, .int .i64 e7, .int .i64 e8]] w (MadeMB w (markedM l ⟨e0, e1, e2, e3, e4, e5, e6, e7, e8⟩)) := by
 have HH := jd h
 clear h
 rw [← over_one]
 obtain ⟨r, hr⟩ : ∃ r, r = seenOverM l [(⟨e0, e1, e2, e3, e4, e5, e6, e7, e8⟩ : EntM)] := ⟨_, rfl⟩
 rw [← hr]
 have HRR := jd hr
 clear hr
 have S := Sep.nil w w.heap.size
 have c := Below.refl w.heap.size w
 replace S := S.boxAt c.size (w.heap.size) rfl #[.int .i64 e0, .int .i64 e1, .int .i64 e2, .int .i64 e3, .int .i64 e4, .int .i64 e5, .int .i64 e6, .int .i64 e7, .int .i64 e8] 87
 replace c := al c S
 replace S := S.boxAt c.size (w.heap.size + 1) (by simp) #[.int .i64 e0, .int .i64 e1, .int .i64 e2, .int .i64 e3, .int .i64 e4, .int .i64 e5, .int .i64 e6, .int .i64 e7, .int .i64 e8] 87
 replace c := al c S
 have HR : Rd ((w.alloc (.cells #[.int .i64 e0, .int .i64 e1, .int .i64 e2, .int .i64 e3, .int .i64 e4, .int .i64 e5, .int .i64 e6, .int .i64 e7, .int .i64 e8] 87)).alloc (.cells #[.int .i64 e0, .int .i64 e1, .int .i64 e2, .int .i64 e3, .int .i64 e4, .int .i64 e5, .int .i64 e6, .int .i64 e7, .int .i64 e8] 87)) ((w.alloc (.cells #[.int .i64 e0, .int .i64 e1, .int .i64 e2, .int .i64 e3, .int .i64 e4, .int .i64 e5, .int .i64 e6, .int .i64 e7, .int .i64 e8] 87)).alloc (.cells #[.int .i64 e0, .int .i64 e1, .int .i64 e2, .int .i64 e3, .int .i64 e4, .int .i64 e5, .int .i64 e6, .int .i64 e7, .int .i64 e8] 87)).heap.size [entD [(⟨e0, e1, e2, e3, e4, e5, e6, e7, e8⟩ : EntM)]] [.slice (some ⟨w.heap.size + 1, 0, none⟩) 1 1] := by
  refine Rd.of_lst (us := [.int .i64 e0, .int .i64 e1, .int .i64 e2, .int .i64 e3, .int .i64 e4, .int .i64 e5, .int .i64 e6, .int .i64 e7, .int .i64 e8]) entC_len rfl (by decide) (by decide) (fun _ => ⟨_, 0, rfl, (S.at_ 0 rfl).lt, fun j hj => ?_⟩) (.int (.int (.int (.int (.int (.int (.int (.int (.int (.nil))))))))))
  rw [Nat.zero_add]
  rw [(S.at_ 0 rfl).cell j]
  simp
 have HR := jd HR
 have C := jd c
 clear S c
 go_enter Tryz.func193, Tryz.ntmps193
 go_wp2_with fail
 generalize (w.alloc (.cells #[.int .i64 e0, .int .i64 e1, .int .i64 e2, .int .i64 e3, .int .i64 e4, .int .i64 e5, .int .i64 e6, .int .i64 e7, .int .i64 e8] 87)).alloc (.cells #[.int .i64 e0, .int .i64 e1, .int .i64 e2, .int .i64 e3, .int .i64 e4, .int .i64 e5, .int .i64 e6, .int .i64 e7, .int .i64 e8] 87) = w1 at *
 refine (iSeenOver_any A _ n cc 1 1 w1.heap.size l [(⟨e0, e1, e2, e3, e4, e5, e6, e7, e8⟩ : EntM)] w1 ((HH.out.keep (C.out.mono hB)).up (Nat.le_trans hB C.out.size)) (Nat.le_refl _) hs HR.out (show (1 : Nat) ≤ 1048577 by decide)).mono ?_
 rintro e w2 ⟨A6, n6, c6, rfl, h6, b6⟩
 have H6 := jd (h6.up C.out.size)
 have B6 := jd (C.out.trans (b6.mono C.out.size))
 clear h6 b6 HR C
 rw [← HRR.out] at H6 ⊢
 clear HRR
 obtain ⟨r1, r2⟩ := r
 simp only at H6
 go_wp2
 go_ret2
 exact ⟨A6, n6, c6, rfl, H6.out, B6.out⟩
set_option maxHeartbeats 3200000 in
theorem iDisks_any (Aa0 : Option Addr) (na0 ca0 : Nat) (Aa1 : Option Addr) (na1 ca1 : Nat) (Aa2 : Option Addr) (na2 ca2 : Nat) (Aa3 : Option Addr) (na3 ca3 : Nat) (w : World) : Calls Tryz.prog 53 #[.agg #[.slice Aa0 na0 ca0, .slice Aa1 na1 ca1, .slice Aa2 na2 ca2, .slice Aa3 na3 ca3]] w fun e w' => e = .returned (.agg #[.slice Aa0 na0 ca0, .slice Aa1 na1 ca1, .slice Aa2 na2 ca2, .slice Aa3 na3 ca3]) ∧ Below w.heap.size w w' := by
 have S := Sep.nil w w.heap.size
 have c := Below.refl w.heap.size w
 replace S := S.boxAt c.size (w.heap.size) rfl #[.slice Aa0 na0 ca0, .slice Aa1 na1 ca1, .slice Aa2 na2 ca2, .slice Aa3 na3 ca3] 35
 replace c := al c S
 replace S := S.boxAt c.size (w.heap.size + 1) (by simp) #[.slice Aa0 na0 ca0, .slice Aa1 na1 ca1, .slice Aa2 na2 ca2, .slice Aa3 na3 ca3] 97
 replace c := al c S
 go_enter Tryz.func53, Tryz.ntmps53
 have f0 := lk S 1 0 rfl rfl
 have f1 := lk S 1 1 rfl rfl
 have f2 := lk S 1 2 rfl rfl
 have f3 := lk S 1 3 rfl rfl
 have f4 := lk S 0 0 rfl rfl
 have f5 := lk S 0 1 rfl rfl
 have f6 := lk S 0 2 rfl rfl
 have f7 := lk S 0 3 rfl rfl
 have C := jd c
 clear S c
 go_wp2
 exact bodyPost_ret (v := .agg #[.slice Aa0 na0 ca0, .slice Aa1 na1 ca1, .slice Aa2 na2 ca2, .slice Aa3 na3 ca3]) (by simp [results, Tryz.results53, go_sem]) rfl ⟨rfl, C.out⟩
set_option maxHeartbeats 6400000 in
theorem iTwoOk_any (Aa0 : Option Addr) (na0 ca0 : Nat) (Aa1 : Option Addr) (na1 ca1 : Nat) (Aa2 : Option Addr) (na2 ca2 : Nat) (Aa3 : Option Addr) (na3 ca3 : Nat) (t : TwoM) (B : Nat) (w : World) (h : Rd w B t.cells [.slice Aa0 na0 ca0, .slice Aa1 na1 ca1, .slice Aa2 na2 ca2, .slice Aa3 na3 ca3]) (hB : B ≤ w.heap.size) (hs : t.sz ≤ 1048577) :
    Calls Tryz.prog 52 #[.agg #[.slice Aa0 na0 ca0, .slice Aa1 na1 ca1, .slice Aa2 na2 ca2, .slice Aa3 na3 ca3]] w fun e w' => e = .returned (.bool (twoOk t)) ∧ Below w.heap.size w w' := by
 obtain ⟨ha, hb⟩ := h.halves
 have hsa : t.a.sz ≤ 1048577 := by unfold TwoM.sz at hs; omega
 have hsb : t.b.sz ≤ 1048577 := by unfold TwoM.sz at hs; omega
 cases hda : diskOk t.a
 case false =>
  have HT := jd (show twoOk t = false from twoOk_no (by simp [hda]))
  have HA := jd hda
  clear hda
  have S := Sep.nil w w.heap.size
  have c := Below.refl w.heap.size w
  have hix0 : ∀ w9, (Instr.index 97 (.agg #[.slice Aa0 na0 ca0, .slice Aa1 na1 ca1, .slice Aa2 na2 ca2, .slice Aa3 na3 ca3]) (.int .i64 0)).run Tryz.prog w9 = .ok (.agg #[.slice Aa0 na0 ca0, .slice Aa1 na1 ca1]) w9 := fun _ => by kernel_rfl
  have hix1 : ∀ w9, (Instr.index 97 (.agg #[.slice Aa0 na0 ca0, .slice Aa1 na1 ca1, .slice Aa2 na2 ca2, .slice Aa3 na3 ca3]) (.int .i64 1)).run Tryz.prog w9 = .ok (.agg #[.slice Aa2 na2 ca2, .slice Aa3 na3 ca3]) w9 := fun _ => by kernel_rfl
  replace S := S.boxAt c.size (w.heap.size) rfl #[.slice Aa0 na0 ca0, .slice Aa1 na1 ca1, .slice Aa2 na2 ca2, .slice Aa3 na3 ca3] 35
  replace c := al c S
  go_enter Tryz.func52, Tryz.ntmps52
  have f0 := lk S 0 0 rfl rfl
  have f1 := lk S 0 1 rfl rfl
  have f2 := lk S 0 2 rfl rfl
  have f3 := lk S 0 3 rfl rfl
  go_wp2_with fail
  generalize w.alloc (.cells #[.slice Aa0 na0 ca0, .slice Aa1 na1 ca1, .slice Aa2 na2 ca2, .slice Aa3 na3 ca3] 35) = w1 at *
  refine (iDisks_any _ _ _ _ _ _ _ _ _ _ _ _ _).mono ?_
  rintro e w2 ⟨rfl, b⟩
  replace c := c.trans (b.mono c.size)
  replace S := S.keep b
  clear b f0 f1 f2 f3
  go_wp2
  refine wp_loop_rounds 3 ?_
  rw [rounds_succ]
  replace S := S.boxAt c.size (w2.heap.size) rfl #[.slice Aa0 na0 ca0, .slice Aa1 na1 ca1] 33
  replace c := al c S
  have f4 := lk S 0 0 rfl rfl
  have f5 := lk S 0 1 rfl rfl
  go_wp2_with fail
  generalize w2.alloc (.cells #[.slice Aa0 na0 ca0, .slice Aa1 na1 ca1] 33) = w3 at *
  refine (iDiskOk_any _ _ t.a _ _ (ha.keep (c.mono hB)) (Nat.le_trans hB c.size) hsa).mono ?_
  rintro e w4 ⟨rfl, b⟩
  replace c := c.trans (b.mono c.size)
  replace S := S.keep b
  clear b f4 f5
  rw [HA.out]
  have C := jd c
  clear S c ha hb h
  go_wp2
  go_ret
  exact ⟨ret_bool HT.out.symm, C.out⟩
 have HA := jd hda
 clear hda
 cases hdb : diskOk t.b
 case false =>
  have HT := jd (show twoOk t = false from twoOk_no (by simp [hdb]))
  have HB := jd hdb
  clear hdb
  have S := Sep.nil w w.heap.size
  have c := Below.refl w.heap.size w
  have hix0 : ∀ w9, (Instr.index 97 (.agg #[.slice Aa0 na0 ca0, .slice Aa1 na1 ca1, .slice Aa2 na2 ca2, .slice Aa3 na3 ca3]) (.int .i64 0)).run Tryz.prog w9 = .ok (.agg #[.slice Aa0 na0 ca0, .slice Aa1 na1 ca1]) w9 := fun _ => by kernel_rfl
  have hix1 : ∀ w9, (Instr.index 97 (.agg #[.slice Aa0 na0 ca0, .slice Aa1 na1 ca1, .slice Aa2 na2 ca2, .slice Aa3 na3 ca3]) (.int .i64 1)).run Tryz.prog w9 = .ok (.agg #[.slice Aa2 na2 ca2, .slice Aa3 na3 ca3]) w9 := fun _ => by kernel_rfl
  replace S := S.boxAt c.size (w.heap.size) rfl #[.slice Aa0 na0 ca0, .slice Aa1 na1 ca1, .slice Aa2 na2 ca2, .slice Aa3 na3 ca3] 35
  replace c := al c S
  go_enter Tryz.func52, Tryz.ntmps52
  have f0 := lk S 0 0 rfl rfl
  have f1 := lk S 0 1 rfl rfl
  have f2 := lk S 0 2 rfl rfl
  have f3 := lk S 0 3 rfl rfl
  go_wp2_with fail
  generalize w.alloc (.cells #[.slice Aa0 na0 ca0, .slice Aa1 na1 ca1, .slice Aa2 na2 ca2, .slice Aa3 na3 ca3] 35) = w1 at *
  refine (iDisks_any _ _ _ _ _ _ _ _ _ _ _ _ _).mono ?_
  rintro e w2 ⟨rfl, b⟩
  replace c := c.trans (b.mono c.size)
  replace S := S.keep b
  clear b f0 f1 f2 f3
  go_wp2
  refine wp_loop_rounds 3 ?_
  rw [rounds_succ]
  replace S := S.boxAt c.size (w2.heap.size) rfl #[.slice Aa0 na0 ca0, .slice Aa1 na1 ca1] 33
  replace c := al c S
  have f4 := lk S 0 0 rfl rfl
  have f5 := lk S 0 1 rfl rfl
  go_wp2_with fail
  generalize w2.alloc (.cells #[.slice Aa0 na0 ca0, .slice Aa1 na1 ca1] 33) = w3 at *
  refine (iDiskOk_any _ _ t.a _ _ (ha.keep (c.mono hB)) (Nat.le_trans hB c.size) hsa).mono ?_
  rintro e w4 ⟨rfl, b⟩
  replace c := c.trans (b.mono c.size)
  replace S := S.keep b
  clear b f4 f5
  rw [HA.out]
  go_wp2
  rw [rounds_succ]
  replace S := S.boxAt c.size (w4.heap.size) rfl #[.slice Aa2 na2 ca2, .slice Aa3 na3 ca3] 33
  replace c := al c S
  have f6 := lk S 0 0 rfl rfl
  have f7 := lk S 0 1 rfl rfl
  go_wp2_with fail
  generalize w4.alloc (.cells #[.slice Aa2 na2 ca2, .slice Aa3 na3 ca3] 33) = w5 at *
  refine (iDiskOk_any _ _ t.b _ _ (hb.keep (c.mono hB)) (Nat.le_trans hB c.size) hsb).mono ?_
  rintro e w6 ⟨rfl, b⟩
  replace c := c.trans (b.mono c.size)
  replace S := S.keep b
  clear b f6 f7
  rw [HB.out]
  have C := jd c
  clear S c ha hb h
  go_wp2
  go_ret
  exact ⟨ret_bool HT.out.symm, C.out⟩
 case true =>
  have hl0 := rdKeptLen ha
  have hl2 := rdKeptLen hb
  have hn0 : na0 ≤ 1048577 := by unfold DiskM.sz rowsSz at hsa; omega
  have hn2 : na2 ≤ 1048577 := by unfold DiskM.sz rowsSz at hsb; omega
  have HT := jd (show twoOk t = decide ((na0 : Int) = (na2 : Int)) by
   unfold twoOk
   rw [HA.out, hdb, hl0, hl2]
   simp only [Bool.true_and]
   exact decide_eq_decide.2 (by omega))
  have HB := jd hdb
  clear hdb hl0 hl2
  have S := Sep.nil w w.heap.size
  have c := Below.refl w.heap.size w
  have hix0 : ∀ w9, (Instr.index 97 (.agg #[.slice Aa0 na0 ca0, .slice Aa1 na1 ca1, .slice Aa2 na2 ca2, .slice Aa3 na3 ca3]) (.int .i64 0)).run Tryz.prog w9 = .ok (.agg #[.slice Aa0 na0 ca0, .slice Aa1 na1 ca1]) w9 := fun _ => by kernel_rfl
  have hix1 : ∀ w9, (Instr.index 97 (.agg #[.slice Aa0 na0 ca0, .slice Aa1 na1 ca1, .slice Aa2 na2 ca2, .slice Aa3 na3 ca3]) (.int .i64 1)).run Tryz.prog w9 = .ok (.agg #[.slice Aa2 na2 ca2, .slice Aa3 na3 ca3]) w9 := fun _ => by kernel_rfl
  replace S := S.boxAt c.size (w.heap.size) rfl #[.slice Aa0 na0 ca0, .slice Aa1 na1 ca1, .slice Aa2 na2 ca2, .slice Aa3 na3 ca3] 35
  replace c := al c S
  go_enter Tryz.func52, Tryz.ntmps52
  have f0 := lk S 0 0 rfl rfl
  have f1 := lk S 0 1 rfl rfl
  have f2 := lk S 0 2 rfl rfl
  have f3 := lk S 0 3 rfl rfl
  go_wp2_with fail
  generalize w.alloc (.cells #[.slice Aa0 na0 ca0, .slice Aa1 na1 ca1, .slice Aa2 na2 ca2, .slice Aa3 na3 ca3] 35) = w1 at *
  refine (iDisks_any _ _ _ _ _ _ _ _ _ _ _ _ _).mono ?_
  rintro e w2 ⟨rfl, b⟩
  replace c := c.trans (b.mono c.size)
  replace S := S.keep b
  clear b f0 f1 f2 f3
  go_wp2
  refine wp_loop_rounds 3 ?_
  rw [rounds_succ]
  replace S := S.boxAt c.size (w2.heap.size) rfl #[.slice Aa0 na0 ca0, .slice Aa1 na1 ca1] 33
  replace c := al c S
  have f4 := lk S 0 0 rfl rfl
  have f5 := lk S 0 1 rfl rfl
  go_wp2_with fail
  generalize w2.alloc (.cells #[.slice Aa0 na0 ca0, .slice Aa1 na1 ca1] 33) = w3 at *
  refine (iDiskOk_any _ _ t.a _ _ (ha.keep (c.mono hB)) (Nat.le_trans hB c.size) hsa).mono ?_
  rintro e w4 ⟨rfl, b⟩
  replace c := c.trans (b.mono c.size)
  replace S := S.keep b
  clear b f4 f5
  rw [HA.out]
  go_wp2
  rw [rounds_succ]
  replace S := S.boxAt c.size (w4.heap.size) rfl #[.slice Aa2 na2 ca2, .slice Aa3 na3 ca3] 33
  replace c := al c S
  have f6 := lk S 0 0 rfl rfl
  have f7 := lk S 0 1 rfl rfl
  go_wp2_with fail
  generalize w4.alloc (.cells #[.slice Aa2 na2 ca2, .slice Aa3 na3 ca3] 33) = w5 at *
  refine (iDiskOk_any _ _ t.b _ _ (hb.keep (c.mono hB)) (Nat.le_trans hB c.size) hsb).mono ?_
  rintro e w6 ⟨rfl, b⟩
  replace c := c.trans (b.mono c.size)
  replace S := S.keep b
  clear b f6 f7
  rw [HB.out]
  go_wp2
  rw [rounds_succ]
  have f8 := lk S 2 0 rfl rfl
  have f9 := lk S 2 2 rfl rfl
  have C := jd c
  clear S c ha hb h
  go_wp2
  go_ret
  exact ⟨ret_bool HT.out.symm, C.out⟩
end Go.Proofs.YtmjifhjhialcbaaGreat

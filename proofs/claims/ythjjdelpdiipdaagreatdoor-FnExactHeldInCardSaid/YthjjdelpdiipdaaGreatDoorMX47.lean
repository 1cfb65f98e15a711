/- Parts of my texts: LogI4. -/
import Derived.Test.YthjjdelpdiipdaaGreatDoorMX42
import Derived.Test.YthjjdelpdiipdaaGreatDoorMX44
import Derived.Test.YthjjdelpdiipdaaGreatDoorMX46
namespace Go.Proofs.YthjjdelpdiipdaaGreatDoor
set_option maxRecDepth 100000
set_option linter.unusedVariables false
open Go.RowKit
def VarIs (g : Nat) (x : Value) (w : World) : Prop := w.cell? ⟨g, 0, none⟩ = some x ∧ g < w.heap.size ∧ ((∃ ty v, x = .iface ty v) ∨ x = .nilIface)
theorem VarIs.stays {g : Nat} {x : Value} (w w' : World) (h : VarIs g x w) (b : Below w.heap.size w w') : VarIs g x w' := ⟨(b.cell (p := ⟨g, 0, none⟩) h.2.1).trans h.1, Nat.lt_of_lt_of_le h.2.1 b.size, h.2.2⟩
theorem logB_of {t : LogM} (h0 : keptB t.two = true) (h1 : headOkB t.head = true) (h2 : bookB t.book = true) (h3 : t.book.base = t.head.base) (h4 : t.book.tm = t.head.tm) (h5 : (overN t).2 = true) (h6 : sameMs t.seen (overN t).1 = true) (h7 : logD t = true) (h8 : logN t = true) : logB t = logW t := by
 unfold logB logS
 rw [h0, h1, h2, decide_eq_true h3, decide_eq_true h4, h5, h6, h7, h8]
 simp
def faultV (b : Bool) (s : ByteArray) (old : Value) : Value := if b = true then .nilIface else .iface 126 (.agg #[.string s, old])
set_option maxHeartbeats 25600000 in
theorem iFault_any (v0 v1 v2 v3 v4 v5 v6 v7 v8 v9 v10 v11 v12 v13 v14 v15 v16 v17 v18 : Value) (t : LogM) (w : World) (h : Rd w w.heap.size t.cells [v0, v1, v2, v3, v4, v5, v6, v7, v8, v9, v10, v11, v12, v13, v14, v15, v16, v17, v18]) (hs : t.sz ≤ 1048576) (old : Value) (hv : VarIs 0 old w) :
    Calls Tryz.prog 43 #[.agg #[v0, v1, v2, v3, v4, v5, v6, v7, v8, v9, v10, v11, v12, v13, v14, v15, v16, v17, v18]] w fun e w' => (∃ s, e = .returned (faultV (logB t) s old)) ∧ Below w.heap.size w w' := by
 have HH := jd h
 have HZ := jd hs
 have HVV := jd hv
 obtain ⟨Aa0, na0, ca0, Aa1, na1, ca1, Aa2, na2, ca2, Aa3, na3, ca3, Aa7, na7, ca7, Aa11, na11, ca11, Aa15, na15, ca15, Aa16, na16, ca16, Aa18, na18, ca18, ea0, ea1, ea2, ea3, ea4, ea5, ea6, ea7, ea8, ea9, ea10, ea11, ea12, ea13, ea14, ea15, ea16, ea17, ea18, hr0, hr1, hr2, hr4, hr5, hr7⟩ := h.logT
 subst ea0 ea1 ea2 ea3 ea4 ea5 ea6 ea7 ea8 ea9 ea10 ea11 ea12 ea13 ea14 ea15 ea16 ea17 ea18
 have hz0 : t.two.sz ≤ 1048576 := by unfold LogM.sz at hs; omega
 have hz1 : t.head.sz ≤ 1048576 := by unfold LogM.sz at hs; omega
 have hz2 : t.next.sz ≤ 1048576 := by unfold LogM.sz at hs; omega
 have hz4 : t.book.sz ≤ 1048576 := by unfold LogM.sz at hs; omega
 have hz5 : mrkSz t.seen ≤ 1048576 := by unfold LogM.sz at hs; omega
 have hz7 : oweSz t.owe ≤ 1048576 := by unfold LogM.sz at hs; omega
 have hm1 := (hr1.headL).2.2.2
 have hm2 := (hr2.headL).2.2.2
 have he4 := hr4.bookE
 have ys1 : mrkSz t.head.seen ≤ 1048576 := hz1
 have ys2 : mrkSz t.next.seen ≤ 1048576 := hz2
 have ye4 : entSz t.book.ents ≤ 1048576 := hz4
 clear h hs
 clear hv
 have S := Sep.nil w w.heap.size
 have c := Below.refl w.heap.size w
 replace S := S.boxAt c.size (w.heap.size) rfl #[.slice Aa0 na0 ca0, .slice Aa1 na1 ca1, .slice Aa2 na2 ca2, .slice Aa3 na3 ca3, .int .i64 t.head.num, .int .i64 t.head.base, .int .i64 t.head.tm, .slice Aa7 na7 ca7, .int .i64 t.next.num, .int .i64 t.next.base, .int .i64 t.next.tm, .slice Aa11 na11 ca11, .bool t.more, .int .i64 t.book.base, .int .i64 t.book.tm, .slice Aa15 na15 ca15, .slice Aa16 na16 ca16, .int .i64 t.dur, .slice Aa18 na18 ca18] 52
 replace c := al c S
 go_enter Tryz.func43, Tryz.ntmps43
 have f0 := lk S 0 0 rfl rfl
 have f1 := lk S 0 1 rfl rfl
 have f2 := lk S 0 2 rfl rfl
 have f3 := lk S 0 3 rfl rfl
 go_wp2_with fail
 generalize w.alloc (.cells #[.slice Aa0 na0 ca0, .slice Aa1 na1 ca1, .slice Aa2 na2 ca2, .slice Aa3 na3 ca3, .int .i64 t.head.num, .int .i64 t.head.base, .int .i64 t.head.tm, .slice Aa7 na7 ca7, .int .i64 t.next.num, .int .i64 t.next.base, .int .i64 t.next.tm, .slice Aa11 na11 ca11, .bool t.more, .int .i64 t.book.base, .int .i64 t.book.tm, .slice Aa15 na15 ca15, .slice Aa16 na16 ca16, .int .i64 t.dur, .slice Aa18 na18 ca18] 52) = w1 at *
 refine (iKeptOk_c.at_ _ _ _ _ _ _ _ _ _ _ _ _ t.two _ ((hr0.keep c).up c.size) hz0).mono ?_
 rintro e w2 ⟨rfl, b⟩
 replace c := c.trans (b.mono c.size)
 replace S := S.keep b
 clear b f0 f1 f2 f3
 cases c0 : keptB t.two
 case false =>
  have HV := jd (show logB t = false from Bool.eq_false_iff.2 fun h9 => by have h9 := (logB_iff t).1 h9; rw [h9.1] at c0; cases c0)
  have hg : w2.cell? ⟨0, 0, none⟩ = some old := (c.cell (p := ⟨0, 0, none⟩) HVV.out.2.1).trans HVV.out.1
  have CC := jd c
  have HI := jd HVV.out.2.2
  clear S c HVV
  rcases HI.out with ⟨oty, ov, rfl⟩ | rfl
  · go_wp2
    go_ret
    exact ⟨⟨_, by rw [HV.out]; rfl⟩, CC.out⟩
  · go_wp2
    go_ret
    exact ⟨⟨_, by rw [HV.out]; rfl⟩, CC.out⟩
 case true =>
  have f4 := lk S 0 4 rfl rfl
  have f5 := lk S 0 5 rfl rfl
  have f6 := lk S 0 6 rfl rfl
  have f7 := lk S 0 7 rfl rfl
  go_wp2_with fail
  refine (iHeadOk_c.at_ _ _ _ _ _ _ t.head _ ((hr1.keep c).up c.size) hz1).mono ?_
  rintro e w3 ⟨rfl, b⟩
  replace c := c.trans (b.mono c.size)
  replace S := S.keep b
  clear b f4 f5 f6 f7
  cases c1 : headOkB t.head
  case false =>
   have HV := jd (show logB t = false from Bool.eq_false_iff.2 fun h9 => by have h9 := (logB_iff t).1 h9; rw [h9.2.1] at c1; cases c1)
   have hg : w3.cell? ⟨0, 0, none⟩ = some old := (c.cell (p := ⟨0, 0, none⟩) HVV.out.2.1).trans HVV.out.1
   have CC := jd c
   have HI := jd HVV.out.2.2
   clear S c HVV
   rcases HI.out with ⟨oty, ov, rfl⟩ | rfl
   · go_wp2
     go_ret
     exact ⟨⟨_, by rw [HV.out]; rfl⟩, CC.out⟩
   · go_wp2
     go_ret
     exact ⟨⟨_, by rw [HV.out]; rfl⟩, CC.out⟩
  case true =>
   have f8 := lk S 0 13 rfl rfl
   have f9 := lk S 0 14 rfl rfl
   have f10 := lk S 0 15 rfl rfl
   go_wp2_with fail
   refine (iBookOk_c.at_ _ _ _ _ _ t.book _ ((hr4.keep c).up c.size) hz4).mono ?_
   rintro e w4 ⟨rfl, b⟩
   replace c := c.trans (b.mono c.size)
   replace S := S.keep b
   clear b f8 f9 f10
   cases c2 : bookB t.book
   case false =>
    have HV := jd (show logB t = false from Bool.eq_false_iff.2 fun h9 => by have h9 := (logB_iff t).1 h9; rw [h9.2.2.1] at c2; cases c2)
    have hg : w4.cell? ⟨0, 0, none⟩ = some old := (c.cell (p := ⟨0, 0, none⟩) HVV.out.2.1).trans HVV.out.1
    have CC := jd c
    have HI := jd HVV.out.2.2
    clear S c HVV
    rcases HI.out with ⟨oty, ov, rfl⟩ | rfl
    · go_wp2
      go_ret
      exact ⟨⟨_, by rw [HV.out]; rfl⟩, CC.out⟩
    · go_wp2
      go_ret
      exact ⟨⟨_, by rw [HV.out]; rfl⟩, CC.out⟩
   case true =>
    by_cases q3 : t.book.base = t.head.base
    case neg =>
     have e3 : (t.book.base != t.head.base) = true := by simpa using q3
     have f11 := lk S 0 13 rfl rfl
     have f12 := lk S 0 5 rfl rfl
     have HV := jd (show logB t = false from Bool.eq_false_iff.2 fun h9 => by have h9 := (logB_iff t).1 h9; exact q3 h9.2.2.2.1)
     have hg : w4.cell? ⟨0, 0, none⟩ = some old := (c.cell (p := ⟨0, 0, none⟩) HVV.out.2.1).trans HVV.out.1
     have CC := jd c
     have HI := jd HVV.out.2.2
     clear S c HVV
     rcases HI.out with ⟨oty, ov, rfl⟩ | rfl
     · go_wp2
       go_ret
       exact ⟨⟨_, by rw [HV.out]; rfl⟩, CC.out⟩
     · go_wp2
       go_ret
       exact ⟨⟨_, by rw [HV.out]; rfl⟩, CC.out⟩
    have e3 : (t.book.base != t.head.base) = false := by simpa using q3
    by_cases q4 : t.book.tm = t.head.tm
    case neg =>
     have e4 : (t.book.tm != t.head.tm) = true := by simpa using q4
     have f11 := lk S 0 13 rfl rfl
     have f12 := lk S 0 5 rfl rfl
     have f13 := lk S 0 14 rfl rfl
     have f14 := lk S 0 6 rfl rfl
     have Q3 := jd q3
     clear q3
     have HV := jd (show logB t = false from Bool.eq_false_iff.2 fun h9 => by have h9 := (logB_iff t).1 h9; exact q4 h9.2.2.2.2.1)
     have hg : w4.cell? ⟨0, 0, none⟩ = some old := (c.cell (p := ⟨0, 0, none⟩) HVV.out.2.1).trans HVV.out.1
     have CC := jd c
     have HI := jd HVV.out.2.2
     clear S c HVV
     rcases HI.out with ⟨oty, ov, rfl⟩ | rfl
     · go_wp2
       go_ret
       exact ⟨⟨_, by rw [HV.out]; rfl⟩, CC.out⟩
     · go_wp2
       go_ret
       exact ⟨⟨_, by rw [HV.out]; rfl⟩, CC.out⟩
    have e4 : (t.book.tm != t.head.tm) = false := by simpa using q4
    have Q3 := jd q3
    have Q4 := jd q4
    clear q3 q4
    have f11 := lk S 0 13 rfl rfl
    have f12 := lk S 0 5 rfl rfl
    have f13 := lk S 0 14 rfl rfl
    have f14 := lk S 0 6 rfl rfl
    have f15 := lk S 0 7 rfl rfl
    have f16 := lk S 0 15 rfl rfl
    go_wp2_with fail
    clear e3 e4
    refine (iSeenOver_c _ _ _ t.head.seen _ _ _ t.book.ents _ ((hm1.keep c).up c.size) (Nat.le_trans ys1 (by decide)) ((he4.keep c).up c.size) (Nat.le_trans ye4 (by decide))).mono ?_
    rintro e w5 ⟨A3, n3, c3, rfl, o, b⟩
    obtain ⟨fp_sn, S'⟩ := S.has b o c.size
    replace c := c.trans (b.mono c.size)
    clear S; have S := S'; clear S' o b f11 f12 f13 f14 f15 f16
    have C0 := jd c0
    have C1 := jd c1
    have C2 := jd c2
    clear c0 c1 c2
    cases c5 : (seenOverM t.head.seen t.book.ents).2
    case false =>
     have HV := jd (show logB t = false from Bool.eq_false_iff.2 fun h9 => by have h9 := (logB_iff t).1 h9; have h8 : logS t = true := h9.2.2.2.2.2.1; unfold logS overN at h8; rw [c5] at h8; cases h8)
     have hg : w5.cell? ⟨0, 0, none⟩ = some old := (c.cell (p := ⟨0, 0, none⟩) HVV.out.2.1).trans HVV.out.1
     have CC := jd c
     have HI := jd HVV.out.2.2
     clear S c HVV
     rcases HI.out with ⟨oty, ov, rfl⟩ | rfl
     · go_wp2
       go_ret
       exact ⟨⟨_, by rw [HV.out]; rfl⟩, CC.out⟩
     · go_wp2
       go_ret
       exact ⟨⟨_, by rw [HV.out]; rfl⟩, CC.out⟩
    case true =>
     have C5 := jd c5
     have f17 := lk S 1 16 rfl rfl
     go_wp2_with fail
     refine (iSameSeen_c _ _ _ t.seen _ _ _ (seenOverM t.head.seen t.book.ents).1 _ ((hr5.keep c).up c.size) (Nat.le_trans hz5 (by decide)) (S.own_ 0 rfl).rd (seenOverM_sz _ _ ys1 ye4)).mono ?_
     rintro e w6 ⟨rfl, b⟩
     replace c := c.trans (b.mono c.size)
     replace S := S.keep b
     clear b f17
     replace S := S.sub (.cons _ (.cons_cons _ (List.nil_sublist _)))
     cases c6 : sameMs t.seen (seenOverM t.head.seen t.book.ents).1
     case false =>
      clear c5
      have HV := jd (show logB t = false from Bool.eq_false_iff.2 fun h9 => by have h9 := (logB_iff t).1 h9; have h8 : logS t = true := h9.2.2.2.2.2.1; unfold logS overN at h8; rw [c6, Bool.and_false] at h8; cases h8)
      have hg : w6.cell? ⟨0, 0, none⟩ = some old := (c.cell (p := ⟨0, 0, none⟩) HVV.out.2.1).trans HVV.out.1
      have CC := jd c
      have HI := jd HVV.out.2.2
      clear S c HVV
      rcases HI.out with ⟨oty, ov, rfl⟩ | rfl
      · go_wp2
        go_ret
        exact ⟨⟨_, by rw [HV.out]; rfl⟩, CC.out⟩
      · go_wp2
        go_ret
        exact ⟨⟨_, by rw [HV.out]; rfl⟩, CC.out⟩
     case true =>
      have C6 := jd c6
      clear c5 c6
      have HB2 := (bookB_iff t.book).1 C2.out
      have HLB := jd (show lastM t.book = lastB t.book by unfold lastM; rw [if_pos C2.out])
      by_cases q7 : t.dur < t.book.base
      case pos =>
       have d7 : decide (t.dur < t.book.base) = true := decide_eq_true q7
       have Q7 := jd q7
       clear q7 HB2
       have f18 := lk S 0 13 rfl rfl
       have f19 := lk S 0 14 rfl rfl
       have f20 := lk S 0 15 rfl rfl
       have f21 := lk S 0 17 rfl rfl
       go_wp2_with fail
       have hbk := (hr4.keep c).up c.size
       refine wp_region_cls (fun v => v.cell? ⟨w.heap.size, 13, none⟩ = some (.int .i64 t.book.base) ∧ v.cell? ⟨w.heap.size, 14, none⟩ = some (.int .i64 t.book.tm) ∧ v.cell? ⟨w.heap.size, 15, none⟩ = some (.slice Aa15 na15 ca15) ∧ v.cell? ⟨w.heap.size, 17, none⟩ = some (.int .i64 t.dur) ∧ Rd v v.heap.size t.book.cells [.int .i64 t.book.base, .int .i64 t.book.tm, .slice Aa15 na15 ca15]) (by kernel_rfl) (by kernel_rfl) (fun v hv => ⟨cq hv f18, cq hv f19, cq hv f20, cq hv f21, (hbk.keep hv).up hv.size⟩) ?_
       intro CL HF HC
       repeat
        (first
           | go_big_quiet_skip
           | (go_big_quiet_want
              go_big_quiet_op
              first
               | go_big_quiet_on
               | (apply Exists.intro
                  refine ⟨fun v hv => ?_, ?_⟩
                  · obtain ⟨a0, a1, a2, a3, a4⟩ := HF v hv
                    first
                     | exact rfl
                     | (go_simp; exact rfl)
                     | (go_simp; exact ⟨rfl, hv⟩)
                  go_big_quiet_on)))
       refine wpQuiet_nil ?_
       intro w7 b9
       replace c := c.trans (b9.mono c.size)
       replace S := S.keep b9
       clear b9 hbk f18 f19 f20 f21
       have HV := jd (show logB t = false from Bool.eq_false_iff.2 fun h9 => by have h9 := (logB_iff t).1 h9; have h8 := (inB_iff _ _ _).1 h9.2.2.2.2.2.2.1; have := Q7.out; omega)
       have hg : w7.cell? ⟨0, 0, none⟩ = some old := (c.cell (p := ⟨0, 0, none⟩) HVV.out.2.1).trans HVV.out.1
       have CC := jd c
       have HI := jd HVV.out.2.2
       clear S c HVV
       rcases HI.out with ⟨oty, ov, rfl⟩ | rfl
       · go_wp2
         go_ret
         exact ⟨⟨_, by rw [HV.out]; rfl⟩, CC.out⟩
       · go_wp2
         go_ret
         exact ⟨⟨_, by rw [HV.out]; rfl⟩, CC.out⟩
      have d7 : decide (t.dur < t.book.base) = false := decide_eq_false q7
      have Q7 := jd q7
      clear q7 HB2
      by_cases q8 : t.dur > lastB t.book
      case pos =>
       have d8 : decide (t.dur > lastB t.book) = true := decide_eq_true q8
       have d9 : decide (lastB t.book < t.dur) = true := decide_eq_true q8
       have Q8 := jd q8
       clear q8
       have f18 := lk S 0 13 rfl rfl
       have f19 := lk S 0 14 rfl rfl
       have f20 := lk S 0 15 rfl rfl
       have f21 := lk S 0 17 rfl rfl
       go_wp2_with fail
       have hbk := (hr4.keep c).up c.size
       refine wp_region_cls (fun v => v.cell? ⟨w.heap.size, 13, none⟩ = some (.int .i64 t.book.base) ∧ v.cell? ⟨w.heap.size, 14, none⟩ = some (.int .i64 t.book.tm) ∧ v.cell? ⟨w.heap.size, 15, none⟩ = some (.slice Aa15 na15 ca15) ∧ v.cell? ⟨w.heap.size, 17, none⟩ = some (.int .i64 t.dur) ∧ Rd v v.heap.size t.book.cells [.int .i64 t.book.base, .int .i64 t.book.tm, .slice Aa15 na15 ca15]) (by kernel_rfl) (by kernel_rfl) (fun v hv => ⟨cq hv f18, cq hv f19, cq hv f20, cq hv f21, (hbk.keep hv).up hv.size⟩) ?_
       intro CL HF HC
       repeat
        (first
           | go_big_quiet_skip
           | (go_big_quiet_want
              go_big_quiet_op
              first
               | go_big_quiet_on
               | (apply Exists.intro
                  refine ⟨fun v hv => ?_, ?_⟩
                  · obtain ⟨a0, a1, a2, a3, a4⟩ := HF v hv
                    first
                     | (go_at_call 84; exact Calls.cls HC hv (iLastOf_c.at_ _ _ _ _ _ t.book v a4 hz4) (congrArg (Value.int .i64) HLB.out))
                     | exact rfl
                     | (go_simp; exact rfl)
                     | (go_simp; exact ⟨rfl, hv⟩)
                  go_big_quiet_on)))
       refine wpQuiet_nil ?_
       intro w7 b9
       replace c := c.trans (b9.mono c.size)
       replace S := S.keep b9
       clear b9 hbk f18 f19 f20 f21
       have HV := jd (show logB t = false from Bool.eq_false_iff.2 fun h9 => by have h9 := (logB_iff t).1 h9; have h8 := (inB_iff _ _ _).1 h9.2.2.2.2.2.2.1; have := Q8.out; omega)
       have hg : w7.cell? ⟨0, 0, none⟩ = some old := (c.cell (p := ⟨0, 0, none⟩) HVV.out.2.1).trans HVV.out.1
       have CC := jd c
       have HI := jd HVV.out.2.2
       clear S c HVV
       rcases HI.out with ⟨oty, ov, rfl⟩ | rfl
       · go_wp2
         go_ret
         exact ⟨⟨_, by rw [HV.out]; rfl⟩, CC.out⟩
       · go_wp2
         go_ret
         exact ⟨⟨_, by rw [HV.out]; rfl⟩, CC.out⟩
      have d8 : decide (t.dur > lastB t.book) = false := decide_eq_false q8
      have d9 : decide (lastB t.book < t.dur) = false := decide_eq_false q8
      have Q8 := jd q8
      clear q8
      have f18 := lk S 0 13 rfl rfl
      have f19 := lk S 0 14 rfl rfl
      have f20 := lk S 0 15 rfl rfl
      have f21 := lk S 0 17 rfl rfl
      go_wp2_with fail
      have hbk := (hr4.keep c).up c.size
      refine wp_region_cls (fun v => v.cell? ⟨w.heap.size, 13, none⟩ = some (.int .i64 t.book.base) ∧ v.cell? ⟨w.heap.size, 14, none⟩ = some (.int .i64 t.book.tm) ∧ v.cell? ⟨w.heap.size, 15, none⟩ = some (.slice Aa15 na15 ca15) ∧ v.cell? ⟨w.heap.size, 17, none⟩ = some (.int .i64 t.dur) ∧ Rd v v.heap.size t.book.cells [.int .i64 t.book.base, .int .i64 t.book.tm, .slice Aa15 na15 ca15]) (by kernel_rfl) (by kernel_rfl) (fun v hv => ⟨cq hv f18, cq hv f19, cq hv f20, cq hv f21, (hbk.keep hv).up hv.size⟩) ?_
      intro CL HF HC
      repeat
       (first
          | go_big_quiet_skip
          | (go_big_quiet_want
             go_big_quiet_op
             first
              | go_big_quiet_on
              | (apply Exists.intro
                 refine ⟨fun v hv => ?_, ?_⟩
                 · obtain ⟨a0, a1, a2, a3, a4⟩ := HF v hv
                   first
                    | (go_at_call 84; exact Calls.cls HC hv (iLastOf_c.at_ _ _ _ _ _ t.book v a4 hz4) (congrArg (Value.int .i64) HLB.out))
                    | exact rfl
                    | (go_simp; exact rfl)
                    | (go_simp; exact ⟨rfl, hv⟩)
                 go_big_quiet_on)))
      refine wpQuiet_nil ?_
      intro w7 b9
      replace c := c.trans (b9.mono c.size)
      replace S := S.keep b9
      clear b9 hbk f18 f19 f20 f21
      clear d7 d8 d9
      have HD := jd (show logD t = true from (inB_iff _ _ _).2 ⟨by have := Q7.out; omega, by have := Q8.out; omega⟩)
      have HNU := jd (show 0 ≤ t.head.num ∧ t.head.num ≤ 2000 by have := (headOkB_iff t.head).1 C1.out; omega)
      cases c9 : logN t
      case false =>
       have C9 := jd c9
       clear c9
       go_wp2_with fail
       refine wp_region_L (fun v => Blk v (w.heap.size) #[.slice Aa0 na0 ca0, .slice Aa1 na1 ca1, .slice Aa2 na2 ca2, .slice Aa3 na3 ca3, .int .i64 t.head.num, .int .i64 t.head.base, .int .i64 t.head.tm, .slice Aa7 na7 ca7, .int .i64 t.next.num, .int .i64 t.next.base, .int .i64 t.next.tm, .slice Aa11 na11 ca11, .bool t.more, .int .i64 t.book.base, .int .i64 t.book.tm, .slice Aa15 na15 ca15, .slice Aa16 na16 ca16, .int .i64 t.dur, .slice Aa18 na18 ca18] 52) 10 (by kernel_rfl) ?_
       replace S := S.keep ((Below.refl _ _).drew)
       replace c := c.drew
       generalize w7.drew = w8 at *
       have HF : Blk w8 (w.heap.size) #[.slice Aa0 na0 ca0, .slice Aa1 na1 ca1, .slice Aa2 na2 ca2, .slice Aa3 na3 ca3, .int .i64 t.head.num, .int .i64 t.head.base, .int .i64 t.head.tm, .slice Aa7 na7 ca7, .int .i64 t.next.num, .int .i64 t.next.base, .int .i64 t.next.tm, .slice Aa11 na11 ca11, .bool t.more, .int .i64 t.book.base, .int .i64 t.book.tm, .slice Aa15 na15 ca15, .slice Aa16 na16 ca16, .int .i64 t.dur, .slice Aa18 na18 ca18] 52 := S.at_ 0 rfl
       refine wpAnyL_takeT [3, 2, 1] (i := 0) (v := .agg #[.slice Aa0 na0 ca0, .slice Aa1 na1 ca1, .slice Aa2 na2 ca2, .slice Aa3 na3 ca3, .int .i64 t.head.num, .int .i64 t.head.base, .int .i64 t.head.tm, .slice Aa7 na7 ca7, .int .i64 t.next.num, .int .i64 t.next.base, .int .i64 t.next.tm, .slice Aa11 na11 ca11, .bool t.more, .int .i64 t.book.base, .int .i64 t.book.tm, .slice Aa15 na15 ca15, .slice Aa16 na16 ca16, .int .i64 t.dur, .slice Aa18 na18 ca18]) rfl rfl (by kernel_rfl) (by kernel_rfl) (by kernel_rfl) (by kernel_rfl) (by kernel_rfl) (fun _ _ _ h => h) HF (yieldsIf_load_box (by kernel_rfl) 52 _ (by rfl) (w.heap.size) (by rfl) _ _ (fun _ h => h) _ Tryz.underlying52 (by rfl) (by kernel_rfl)) ?_
       try simp only [Act.put]
       refine wpAnyL_step (i := 1) (by kernel_rfl) rfl rfl ?_
       intro K hK
       go_simp
       refine (iNextOk_any _ _ _ _ _ _ _ _ _ _ _ _ _ _ _ _ _ _ _ t _ ((HH.out.keep c).up c.size) HZ.out C2.out Q3.out HD.out HNU.out).mono ?_
       rintro e w9 ⟨rfl, b⟩
       replace c := c.trans (b.mono c.size)
       replace S := S.keep b
       clear b
       clear HF
       have HF : Blk w9 (w.heap.size) #[.slice Aa0 na0 ca0, .slice Aa1 na1 ca1, .slice Aa2 na2 ca2, .slice Aa3 na3 ca3, .int .i64 t.head.num, .int .i64 t.head.base, .int .i64 t.head.tm, .slice Aa7 na7 ca7, .int .i64 t.next.num, .int .i64 t.next.base, .int .i64 t.next.tm, .slice Aa11 na11 ca11, .bool t.more, .int .i64 t.book.base, .int .i64 t.book.tm, .slice Aa15 na15 ca15, .slice Aa16 na16 ca16, .int .i64 t.dur, .slice Aa18 na18 ca18] 52 := S.at_ 0 rfl
       refine hK _ _ (fun _ => HF) ?_
       clear hK K
       try simp only [Act.put]
       rw [C9.out]
       refine wpAnyL_pure (i := 2) (v := ?_) rfl rfl (by kernel_rfl) (by kernel_rfl) (by kernel_rfl) (fun _ _ _ h => h) HF (Or.inl ⟨by rfl, ?_⟩) ?_
       rotate_left 1
       · (intro v _; go_simp; try with_reducible rfl)
       try simp only [Act.put]
       refine wpAnyL_pure (i := 3) (v := ?_) rfl rfl (by kernel_rfl) (by kernel_rfl) (by kernel_rfl) (fun _ _ _ h => h) HF (Or.inl ⟨by rfl, ?_⟩) ?_
       rotate_left 1
       · (intro v _; go_simp; try with_reducible rfl)
       try simp only [Act.put]
       refine wpAnyL_takeT [9, 8, 5] (i := 4) (v := undef) rfl rfl (by kernel_rfl) (by kernel_rfl) (by kernel_rfl) (by kernel_rfl) (by kernel_rfl) (fun _ _ _ h => h) HF (Or.inr ⟨by kernel_rfl, rfl⟩) ?_
       try simp only [Act.put]
       refine wpAnyL_takeT [9, 8] (i := 5) (v := undef) rfl rfl (by kernel_rfl) (by kernel_rfl) (by kernel_rfl) (by kernel_rfl) (by kernel_rfl) (fun _ _ _ h => h) HF (Or.inr ⟨by kernel_rfl, rfl⟩) ?_
       try simp only [Act.put]
       refine wpAnyL_takeT [9, 8, 7] (i := 6) (v := undef) rfl rfl (by kernel_rfl) (by kernel_rfl) (by kernel_rfl) (by kernel_rfl) (by kernel_rfl) (fun _ _ _ h => h) HF (Or.inr ⟨by kernel_rfl, rfl⟩) ?_
       try simp only [Act.put]
       refine wpAnyL_takeT [9, 8] (i := 7) (v := undef) rfl rfl (by kernel_rfl) (by kernel_rfl) (by kernel_rfl) (by kernel_rfl) (by kernel_rfl) (fun _ _ _ h => h) HF (Or.inr ⟨by kernel_rfl, rfl⟩) ?_
       try simp only [Act.put]
       refine wpAnyL_takeT [9] (i := 8) (v := undef) rfl rfl (by kernel_rfl) (by kernel_rfl) (by kernel_rfl) (by kernel_rfl) (by kernel_rfl) (fun _ _ _ h => h) HF (Or.inr ⟨by kernel_rfl, rfl⟩) ?_
       try simp only [Act.put]
       refine wpAnyL_takeT [] (i := 9) (v := undef) rfl rfl (by kernel_rfl) (by kernel_rfl) (by kernel_rfl) (by kernel_rfl) (by kernel_rfl) (fun _ _ _ h => h) HF (Or.inr ⟨by kernel_rfl, rfl⟩) ?_
       try simp only [Act.put]
       refine wpAnyL_step (i := 10) (by kernel_rfl) rfl rfl ?_
       intro K hK
       go_simp
       refine hK _ _ (fun h => nomatch (show true = false from h)) ?_
       clear hK K
       try simp only [Act.put]
       refine wpAnyL_done (by kernel_rfl) ?_ _
       clear HF
       have HV := jd (show logB t = false from Bool.eq_false_iff.2 fun h9 => by have h9 := (logB_iff t).1 h9; rw [h9.2.2.2.2.2.2.2.1] at C9; exact absurd C9.out (by decide))
       have hg : w9.cell? ⟨0, 0, none⟩ = some old := (c.cell (p := ⟨0, 0, none⟩) HVV.out.2.1).trans HVV.out.1
       have CC := jd c
       have HI := jd HVV.out.2.2
       clear S c HVV
       rcases HI.out with ⟨oty, ov, rfl⟩ | rfl
       · go_wp2
         go_ret
         exact ⟨⟨_, by rw [HV.out]; rfl⟩, CC.out⟩
       · go_wp2
         go_ret
         exact ⟨⟨_, by rw [HV.out]; rfl⟩, CC.out⟩
      case true =>
       have HLW := jd (logB_of C0.out C1.out C2.out Q3.out Q4.out C5.out C6.out HD.out c9)
       have C9 := jd c9
       clear c9
       go_wp2_with fail
       refine wp_region_L (fun v => Blk v (w.heap.size) #[.slice Aa0 na0 ca0, .slice Aa1 na1 ca1, .slice Aa2 na2 ca2, .slice Aa3 na3 ca3, .int .i64 t.head.num, .int .i64 t.head.base, .int .i64 t.head.tm, .slice Aa7 na7 ca7, .int .i64 t.next.num, .int .i64 t.next.base, .int .i64 t.next.tm, .slice Aa11 na11 ca11, .bool t.more, .int .i64 t.book.base, .int .i64 t.book.tm, .slice Aa15 na15 ca15, .slice Aa16 na16 ca16, .int .i64 t.dur, .slice Aa18 na18 ca18] 52) 10 (by kernel_rfl) ?_
       replace S := S.keep ((Below.refl _ _).drew)
       replace c := c.drew
       generalize w7.drew = w8 at *
       have HF : Blk w8 (w.heap.size) #[.slice Aa0 na0 ca0, .slice Aa1 na1 ca1, .slice Aa2 na2 ca2, .slice Aa3 na3 ca3, .int .i64 t.head.num, .int .i64 t.head.base, .int .i64 t.head.tm, .slice Aa7 na7 ca7, .int .i64 t.next.num, .int .i64 t.next.base, .int .i64 t.next.tm, .slice Aa11 na11 ca11, .bool t.more, .int .i64 t.book.base, .int .i64 t.book.tm, .slice Aa15 na15 ca15, .slice Aa16 na16 ca16, .int .i64 t.dur, .slice Aa18 na18 ca18] 52 := S.at_ 0 rfl
       refine wpAnyL_takeT [3, 2, 1] (i := 0) (v := .agg #[.slice Aa0 na0 ca0, .slice Aa1 na1 ca1, .slice Aa2 na2 ca2, .slice Aa3 na3 ca3, .int .i64 t.head.num, .int .i64 t.head.base, .int .i64 t.head.tm, .slice Aa7 na7 ca7, .int .i64 t.next.num, .int .i64 t.next.base, .int .i64 t.next.tm, .slice Aa11 na11 ca11, .bool t.more, .int .i64 t.book.base, .int .i64 t.book.tm, .slice Aa15 na15 ca15, .slice Aa16 na16 ca16, .int .i64 t.dur, .slice Aa18 na18 ca18]) rfl rfl (by kernel_rfl) (by kernel_rfl) (by kernel_rfl) (by kernel_rfl) (by kernel_rfl) (fun _ _ _ h => h) HF (yieldsIf_load_box (by kernel_rfl) 52 _ (by rfl) (w.heap.size) (by rfl) _ _ (fun _ h => h) _ Tryz.underlying52 (by rfl) (by kernel_rfl)) ?_
       try simp only [Act.put]
       refine wpAnyL_step (i := 1) (by kernel_rfl) rfl rfl ?_
       intro K hK
       go_simp
       refine (iNextOk_any _ _ _ _ _ _ _ _ _ _ _ _ _ _ _ _ _ _ _ t _ ((HH.out.keep c).up c.size) HZ.out C2.out Q3.out HD.out HNU.out).mono ?_
       rintro e w9 ⟨rfl, b⟩
       replace c := c.trans (b.mono c.size)
       replace S := S.keep b
       clear b
       clear HF
       have HF : Blk w9 (w.heap.size) #[.slice Aa0 na0 ca0, .slice Aa1 na1 ca1, .slice Aa2 na2 ca2, .slice Aa3 na3 ca3, .int .i64 t.head.num, .int .i64 t.head.base, .int .i64 t.head.tm, .slice Aa7 na7 ca7, .int .i64 t.next.num, .int .i64 t.next.base, .int .i64 t.next.tm, .slice Aa11 na11 ca11, .bool t.more, .int .i64 t.book.base, .int .i64 t.book.tm, .slice Aa15 na15 ca15, .slice Aa16 na16 ca16, .int .i64 t.dur, .slice Aa18 na18 ca18] 52 := S.at_ 0 rfl
       refine hK _ _ (fun _ => HF) ?_
       clear hK K
       try simp only [Act.put]
       rw [C9.out]
       refine wpAnyL_pure (i := 2) (v := ?_) rfl rfl (by kernel_rfl) (by kernel_rfl) (by kernel_rfl) (fun _ _ _ h => h) HF (Or.inl ⟨by rfl, ?_⟩) ?_
       rotate_left 1
       · (intro v _; go_simp; try with_reducible rfl)
       try simp only [Act.put]
       refine wpAnyL_pure (i := 3) (v := ?_) rfl rfl (by kernel_rfl) (by kernel_rfl) (by kernel_rfl) (fun _ _ _ h => h) HF (Or.inl ⟨by rfl, ?_⟩) ?_
       rotate_left 1
       · (intro v _; go_simp; try with_reducible rfl)
       try simp only [Act.put]
       refine wpAnyL_takeT [9, 8, 5] (i := 4) (v := ?_) rfl rfl (by kernel_rfl) (by kernel_rfl) (by kernel_rfl) (by kernel_rfl) (by kernel_rfl) (fun _ _ _ h => h) HF (Or.inl ⟨by kernel_rfl, ?_⟩) ?_
       rotate_left 1
       · (rintro v a0; clear a0; go_simp; try with_reducible rfl)
       try simp only [Act.put]
       refine wpAnyL_takeT [9, 8] (i := 5) (v := ?_) rfl rfl (by kernel_rfl) (by kernel_rfl) (by kernel_rfl) (by kernel_rfl) (by kernel_rfl) (fun _ _ _ h => h) HF (Or.inl ⟨by kernel_rfl, ?_⟩) ?_
       rotate_left 1
       · (rintro v a0; have b0 : v.cell? ⟨w.heap.size, 18, none⟩ = some (.slice Aa18 na18 ca18) := a0.cell 18; clear a0; go_simp; try with_reducible rfl)
       try simp only [Act.put]
       refine wpAnyL_takeT [9, 8, 7] (i := 6) (v := .agg #[.slice Aa0 na0 ca0, .slice Aa1 na1 ca1, .slice Aa2 na2 ca2, .slice Aa3 na3 ca3, .int .i64 t.head.num, .int .i64 t.head.base, .int .i64 t.head.tm, .slice Aa7 na7 ca7, .int .i64 t.next.num, .int .i64 t.next.base, .int .i64 t.next.tm, .slice Aa11 na11 ca11, .bool t.more, .int .i64 t.book.base, .int .i64 t.book.tm, .slice Aa15 na15 ca15, .slice Aa16 na16 ca16, .int .i64 t.dur, .slice Aa18 na18 ca18]) rfl rfl (by kernel_rfl) (by kernel_rfl) (by kernel_rfl) (by kernel_rfl) (by kernel_rfl) (fun _ _ _ h => h) HF (yieldsIf_load_box (by kernel_rfl) 52 _ (by rfl) (w.heap.size) (by rfl) _ _ (fun _ h => h) _ Tryz.underlying52 (by rfl) (by kernel_rfl)) ?_
       try simp only [Act.put]
       refine wpAnyL_stepg (i := 7) (by kernel_rfl) rfl (by kernel_rfl) ?_
       intro K hK
       go_simp
       refine (iOweFor_any _ _ _ _ _ _ _ _ _ _ _ _ _ _ _ _ _ _ _ t _ ((HH.out.keep c).up c.size) HZ.out (by have := (inB_iff _ _ _).1 HD.out; have h8 := (bookB_iff t.book).1 C2.out; have h7 := (inB_iff _ _ _).1 HD.out; unfold lastB at h7; omega) C2.out).mono ?_
       rintro e w10 ⟨A3, n3, c3, rfl, o, b⟩
       obtain ⟨fp_ow, S'⟩ := S.has b o c.size
       replace c := c.trans (b.mono c.size)
       clear S; have S := S'; clear S' o b
       clear HF
       have HF : Blk w10 (w.heap.size) #[.slice Aa0 na0 ca0, .slice Aa1 na1 ca1, .slice Aa2 na2 ca2, .slice Aa3 na3 ca3, .int .i64 t.head.num, .int .i64 t.head.base, .int .i64 t.head.tm, .slice Aa7 na7 ca7, .int .i64 t.next.num, .int .i64 t.next.base, .int .i64 t.next.tm, .slice Aa11 na11 ca11, .bool t.more, .int .i64 t.book.base, .int .i64 t.book.tm, .slice Aa15 na15 ca15, .slice Aa16 na16 ca16, .int .i64 t.dur, .slice Aa18 na18 ca18] 52 := S.at_ 1 rfl
       refine hK _ _ (fun _ => HF) ?_
       clear hK K
       try simp only [Act.put]
       refine wpAnyL_stepg (i := 8) (by kernel_rfl) rfl (by kernel_rfl) ?_
       intro K hK
       go_simp
       refine (iSameAcks_any _ _ _ _ _ _ _ _ t.owe (owedM t) _ (hr7.keep c) (S.own_ 0 rfl).rd c.size (Nat.le_refl _) (Nat.le_trans hz7 (by decide)) (by have h8 := (bookB_iff t.book).1 C2.out; have h7 := owed_len t; unfold oweSz; omega)).mono ?_
       rintro e w11 ⟨rfl, b⟩
       replace c := c.trans (b.mono c.size)
       replace S := S.keep b
       clear b
       clear HF
       have HF : Blk w11 (w.heap.size) #[.slice Aa0 na0 ca0, .slice Aa1 na1 ca1, .slice Aa2 na2 ca2, .slice Aa3 na3 ca3, .int .i64 t.head.num, .int .i64 t.head.base, .int .i64 t.head.tm, .slice Aa7 na7 ca7, .int .i64 t.next.num, .int .i64 t.next.base, .int .i64 t.next.tm, .slice Aa11 na11 ca11, .bool t.more, .int .i64 t.book.base, .int .i64 t.book.tm, .slice Aa15 na15 ca15, .slice Aa16 na16 ca16, .int .i64 t.dur, .slice Aa18 na18 ca18] 52 := S.at_ 1 rfl
       refine hK _ _ (fun _ => HF) ?_
       clear hK K
       try simp only [Act.put]
       refine wpAnyL_pure (i := 9) (v := ?_) rfl rfl (by kernel_rfl) (by kernel_rfl) (by kernel_rfl) (fun _ _ _ h => h) HF (Or.inl ⟨by kernel_rfl, ?_⟩) ?_
       rotate_left 1
       · (intro v _; go_simp; try with_reducible rfl)
       try simp only [Act.put]
       refine wpAnyL_step (i := 10) (by kernel_rfl) rfl rfl ?_
       intro K hK
       go_simp
       refine hK _ _ (fun h => nomatch (show true = false from h)) ?_
       clear hK K
       try simp only [Act.put]
       refine wpAnyL_done (by kernel_rfl) ?_ _
       clear HF
       have HW2 := jd (show sameAs t.owe (owedM t) = logB t from HLW.out.symm)
       rw [HW2.out]
       replace S := S.sub (.cons _ (.cons_cons _ (List.nil_sublist _)))
       have hg : w11.cell? ⟨0, 0, none⟩ = some old := (c.cell (p := ⟨0, 0, none⟩) HVV.out.2.1).trans HVV.out.1
       have CC := jd c
       have HI := jd HVV.out.2.2
       clear S c HLW HW2 HVV
       cases hLB : logB t
       case false =>
        rcases HI.out with ⟨oty, ov, rfl⟩ | rfl
        · go_wp2
          go_ret
          exact ⟨⟨_, by first | (rw [hLB]; rfl) | rfl⟩, CC.out⟩
        · go_wp2
          go_ret
          exact ⟨⟨_, by first | (rw [hLB]; rfl) | rfl⟩, CC.out⟩
       case true =>
        go_wp2
        go_ret
        exact ⟨⟨⟨#[]⟩, by first | (rw [hLB]; rfl) | rfl⟩, CC.out⟩
set_option maxHeartbeats 6400000 in
theorem iLogOk_any (v0 v1 v2 v3 v4 v5 v6 v7 v8 v9 v10 v11 v12 v13 v14 v15 v16 v17 v18 : Value) (t : LogM) (w : World) (h : Rd w w.heap.size t.cells [v0, v1, v2, v3, v4, v5, v6, v7, v8, v9, v10, v11, v12, v13, v14, v15, v16, v17, v18]) (hs : t.sz ≤ 1048576) (old : Value) (hv : VarIs 0 old w) :
    Calls Tryz.prog 9 #[.agg #[v0, v1, v2, v3, v4, v5, v6, v7, v8, v9, v10, v11, v12, v13, v14, v15, v16, v17, v18]] w fun e w' => e = .returned (.bool (logB t)) ∧ Below w.heap.size w w' := by
 have HH := jd h
 have HVV := jd hv
 obtain ⟨Aa0, na0, ca0, Aa1, na1, ca1, Aa2, na2, ca2, Aa3, na3, ca3, Aa7, na7, ca7, Aa11, na11, ca11, Aa15, na15, ca15, Aa16, na16, ca16, Aa18, na18, ca18, ea0, ea1, ea2, ea3, ea4, ea5, ea6, ea7, ea8, ea9, ea10, ea11, ea12, ea13, ea14, ea15, ea16, ea17, ea18, hr0, hr1, hr2, hr4, hr5, hr7⟩ := h.logT
 subst ea0 ea1 ea2 ea3 ea4 ea5 ea6 ea7 ea8 ea9 ea10 ea11 ea12 ea13 ea14 ea15 ea16 ea17 ea18
 clear h hv hr0 hr1 hr2 hr4 hr5 hr7
 have S := Sep.nil w w.heap.size
 have c := Below.refl w.heap.size w
 replace S := S.boxAt c.size (w.heap.size) rfl #[.slice Aa0 na0 ca0, .slice Aa1 na1 ca1, .slice Aa2 na2 ca2, .slice Aa3 na3 ca3, .int .i64 t.head.num, .int .i64 t.head.base, .int .i64 t.head.tm, .slice Aa7 na7 ca7, .int .i64 t.next.num, .int .i64 t.next.base, .int .i64 t.next.tm, .slice Aa11 na11 ca11, .bool t.more, .int .i64 t.book.base, .int .i64 t.book.tm, .slice Aa15 na15 ca15, .slice Aa16 na16 ca16, .int .i64 t.dur, .slice Aa18 na18 ca18] 52
 replace c := al c S
 go_enter Tryz.func9, Tryz.ntmps9
 have hb_a := S.at_ 0 rfl
 go_wp2_with (first | (refine wpList_load_box rfl 52 _ (by rfl) (w.heap.size) (by rfl) _ _ hb_a _ Tryz.underlying52 (by rfl) (by kernel_rfl) ?_))
 generalize w.alloc (.cells #[.slice Aa0 na0 ca0, .slice Aa1 na1 ca1, .slice Aa2 na2 ca2, .slice Aa3 na3 ca3, .int .i64 t.head.num, .int .i64 t.head.base, .int .i64 t.head.tm, .slice Aa7 na7 ca7, .int .i64 t.next.num, .int .i64 t.next.base, .int .i64 t.next.tm, .slice Aa11 na11 ca11, .bool t.more, .int .i64 t.book.base, .int .i64 t.book.tm, .slice Aa15 na15 ca15, .slice Aa16 na16 ca16, .int .i64 t.dur, .slice Aa18 na18 ca18] 52) = w1 at *
 refine (iFault_any _ _ _ _ _ _ _ _ _ _ _ _ _ _ _ _ _ _ _ t _ ((HH.out.keep c).up c.size) hs old (VarIs.stays w _ HVV.out c)).mono ?_
 rintro e w2 ⟨⟨s, rfl⟩, b⟩
 have CC := jd (c.trans (b.mono c.size))
 clear S c b hb_a
 cases hLB : logB t
 case false =>
  rw [show faultV false s old = .iface 126 (.agg #[.string s, old]) from rfl]
  go_wp2
  go_ret
  exact ⟨by first | (rw [hLB]; rfl) | rfl, CC.out⟩
 case true =>
  rw [show faultV true s old = .nilIface from rfl]
  go_wp2
  go_ret
  exact ⟨by first | (rw [hLB]; rfl) | rfl, CC.out⟩
end Go.Proofs.YthjjdelpdiipdaaGreatDoor

/- Parts of my texts: LogS5. -/
import Derived.Test.YthjjdelpdiipdaaGreatDoorMX26
import Derived.Test.YthjjdelpdiipdaaGreatDoorMX27
import Derived.Test.YthjjdelpdiipdaaGreatDoorMX29
import Derived.Test.YthjjdelpdiipdaaGreatDoorMX35
namespace Go.Proofs.YthjjdelpdiipdaaGreatDoor
set_option maxRecDepth 100000
set_option linter.unusedVariables false
open Go.RowKit
theorem logB_ofN {t : LogM} (h0 : keptB t.two = true) (h1 : headOkB t.head = true) (h2 : bookB t.book = true) (h3 : t.book.base = t.head.base) (h4 : t.book.tm = t.head.tm) (h5 : (overN t).2 = true) (h6 : sameMs (overN t).1 t.seen = true) (h7 : logD t = true) (h8 : logW t = true) : logB t = logN t := by
 have h9 : sameMs t.seen (overN t).1 = true := (sameMs_iff _ _).2 ((sameMs_iff _ _).1 h6).symm
 unfold logB logS
 rw [h0, h1, h2, decide_eq_true h3, decide_eq_true h4, h5, h9, h7, h8]
 simp
set_option maxHeartbeats 25600000 in
theorem sLogOk_any (v0 v1 v2 v3 v4 v5 v6 v7 v8 v9 v10 v11 v12 v13 v14 v15 v16 v17 v18 : Value) (t : LogM) (w : World) (h : Rd w w.heap.size t.cells [v0, v1, v2, v3, v4, v5, v6, v7, v8, v9, v10, v11, v12, v13, v14, v15, v16, v17, v18]) (hs : t.sz ≤ 1048576) :
    Calls Tryz.prog 7 #[.agg #[v0, v1, v2, v3, v4, v5, v6, v7, v8, v9, v10, v11, v12, v13, v14, v15, v16, v17, v18]] w fun e w' => e = .returned (.bool (logB t)) ∧ Below w.heap.size w w' := by
 have HH := jd h
 have HZ := jd hs
 obtain ⟨Aa0, na0, ca0, Aa1, na1, ca1, Aa2, na2, ca2, Aa3, na3, ca3, Aa7, na7, ca7, Aa11, na11, ca11, Aa15, na15, ca15, Aa16, na16, ca16, Aa18, na18, ca18, ea0, ea1, ea2, ea3, ea4, ea5, ea6, ea7, ea8, ea9, ea10, ea11, ea12, ea13, ea14, ea15, ea16, ea17, ea18, hr0, hr1, hr2, hr4, hr5, hr7⟩ := h.logT
 subst ea0 ea1 ea2 ea3 ea4 ea5 ea6 ea7 ea8 ea9 ea10 ea11 ea12 ea13 ea14 ea15 ea16 ea17 ea18
 have hz0 : t.two.sz ≤ 1048576 := by unfold LogM.sz at hs; omega
 have hz1 : t.head.sz ≤ 1048576 := by unfold LogM.sz at hs; omega
 have hz2 : t.next.sz ≤ 1048576 := by unfold LogM.sz at hs; omega
 have hz4 : t.book.sz ≤ 1048576 := by unfold LogM.sz at hs; omega
 have hz5 : mrkSz t.seen ≤ 1048576 := by unfold LogM.sz at hs; omega
 have hz7 : oweSz t.owe ≤ 1048576 := by unfold LogM.sz at hs; omega
 have hm1 := (hr1.headL).2.2.2
 have hm2 := (hr2.headL).2.2.2
 have he4 := hr4.bookE
 have ys1 : mrkSz t.head.seen ≤ 1048576 := hz1
 have ys2 : mrkSz t.next.seen ≤ 1048576 := hz2
 have ye4 : entSz t.book.ents ≤ 1048576 := hz4
 clear h hs
 have S := Sep.nil w w.heap.size
 have c := Below.refl w.heap.size w
 replace S := S.boxAt c.size (w.heap.size) rfl #[.slice Aa0 na0 ca0, .slice Aa1 na1 ca1, .slice Aa2 na2 ca2, .slice Aa3 na3 ca3, .int .i64 t.head.num, .int .i64 t.head.base, .int .i64 t.head.tm, .slice Aa7 na7 ca7, .int .i64 t.next.num, .int .i64 t.next.base, .int .i64 t.next.tm, .slice Aa11 na11 ca11, .bool t.more, .int .i64 t.book.base, .int .i64 t.book.tm, .slice Aa15 na15 ca15, .slice Aa16 na16 ca16, .int .i64 t.dur, .slice Aa18 na18 ca18] 52
 replace c := al c S
 go_enter Tryz.func7, Tryz.ntmps7
 have f0 := lk S 0 0 rfl rfl
 have f1 := lk S 0 1 rfl rfl
 have f2 := lk S 0 2 rfl rfl
 have f3 := lk S 0 3 rfl rfl
 go_wp2_with fail
 generalize w.alloc (.cells #[.slice Aa0 na0 ca0, .slice Aa1 na1 ca1, .slice Aa2 na2 ca2, .slice Aa3 na3 ca3, .int .i64 t.head.num, .int .i64 t.head.base, .int .i64 t.head.tm, .slice Aa7 na7 ca7, .int .i64 t.next.num, .int .i64 t.next.base, .int .i64 t.next.tm, .slice Aa11 na11 ca11, .bool t.more, .int .i64 t.book.base, .int .i64 t.book.tm, .slice Aa15 na15 ca15, .slice Aa16 na16 ca16, .int .i64 t.dur, .slice Aa18 na18 ca18] 52) = w1 at *
 refine (sKeptOk_c.at_ _ _ _ _ _ _ _ _ _ _ _ _ t.two _ ((hr0.keep c).up c.size) hz0).mono ?_
 rintro e w2 ⟨rfl, b⟩
 replace c := c.trans (b.mono c.size)
 replace S := S.keep b
 clear b f0 f1 f2 f3
 cases c0 : keptB t.two
 case false =>
  have HV := jd (show logB t = false from Bool.eq_false_iff.2 fun h9 => by have h9 := (logB_iff t).1 h9; rw [h9.1] at c0; cases c0)
  have CC := jd c
  clear S c
  go_wp2
  go_ret
  exact ⟨ret_bool HV.out.symm, CC.out⟩
 case true =>
  have f4 := lk S 0 4 rfl rfl
  have f5 := lk S 0 5 rfl rfl
  have f6 := lk S 0 6 rfl rfl
  have f7 := lk S 0 7 rfl rfl
  go_wp2_with fail
  refine (sHeadOk_c.at_ _ _ _ _ _ _ t.head _ ((hr1.keep c).up c.size) hz1).mono ?_
  rintro e w3 ⟨rfl, b⟩
  replace c := c.trans (b.mono c.size)
  replace S := S.keep b
  clear b f4 f5 f6 f7
  cases c1 : headOkB t.head
  case false =>
   have HV := jd (show logB t = false from Bool.eq_false_iff.2 fun h9 => by have h9 := (logB_iff t).1 h9; rw [h9.2.1] at c1; cases c1)
   have CC := jd c
   clear S c
   go_wp2
   go_ret
   exact ⟨ret_bool HV.out.symm, CC.out⟩
  case true =>
   have f8 := lk S 0 13 rfl rfl
   have f9 := lk S 0 14 rfl rfl
   have f10 := lk S 0 15 rfl rfl
   go_wp2_with fail
   refine (sBookOk_c.at_ _ _ _ _ _ t.book _ ((hr4.keep c).up c.size) hz4).mono ?_
   rintro e w4 ⟨rfl, b⟩
   replace c := c.trans (b.mono c.size)
   replace S := S.keep b
   clear b f8 f9 f10
   cases c2 : bookB t.book
   case false =>
    have HV := jd (show logB t = false from Bool.eq_false_iff.2 fun h9 => by have h9 := (logB_iff t).1 h9; rw [h9.2.2.1] at c2; cases c2)
    have CC := jd c
    clear S c
    go_wp2
    go_ret
    exact ⟨ret_bool HV.out.symm, CC.out⟩
   case true =>
    by_cases q3 : t.book.base = t.head.base
    case neg =>
     have e3 : (t.book.base != t.head.base) = true := by simpa using q3
     have f11 := lk S 0 13 rfl rfl
     have f12 := lk S 0 5 rfl rfl
     have HV := jd (show logB t = false from Bool.eq_false_iff.2 fun h9 => by have h9 := (logB_iff t).1 h9; exact q3 h9.2.2.2.1)
     have CC := jd c
     clear S c
     go_wp2
     go_ret
     exact ⟨ret_bool HV.out.symm, CC.out⟩
    have e3 : (t.book.base != t.head.base) = false := by simpa using q3
    by_cases q4 : t.book.tm = t.head.tm
    case neg =>
     have e4 : (t.book.tm != t.head.tm) = true := by simpa using q4
     have f11 := lk S 0 13 rfl rfl
     have f12 := lk S 0 5 rfl rfl
     have f13 := lk S 0 14 rfl rfl
     have f14 := lk S 0 6 rfl rfl
     have Q3 := jd q3
     clear q3
     have HV := jd (show logB t = false from Bool.eq_false_iff.2 fun h9 => by have h9 := (logB_iff t).1 h9; exact q4 h9.2.2.2.2.1)
     have CC := jd c
     clear S c
     go_wp2
     go_ret
     exact ⟨ret_bool HV.out.symm, CC.out⟩
    have e4 : (t.book.tm != t.head.tm) = false := by simpa using q4
    have Q3 := jd q3
    have Q4 := jd q4
    clear q3 q4
    have f11 := lk S 0 13 rfl rfl
    have f12 := lk S 0 5 rfl rfl
    have f13 := lk S 0 14 rfl rfl
    have f14 := lk S 0 6 rfl rfl
    have f15 := lk S 0 7 rfl rfl
    have f16 := lk S 0 15 rfl rfl
    go_wp2_with fail
    clear e3 e4
    refine (sSeenOver_c _ _ _ t.head.seen _ _ _ t.book.ents _ ((hm1.keep c).up c.size) (Nat.le_trans ys1 (by decide)) ((he4.keep c).up c.size) (Nat.le_trans ye4 (by decide))).mono ?_
    rintro e w5 ⟨A3, n3, c3, rfl, o, b⟩
    obtain ⟨fp_sn, S'⟩ := S.has b o c.size
    replace c := c.trans (b.mono c.size)
    clear S; have S := S'; clear S' o b f11 f12 f13 f14 f15 f16
    have C0 := jd c0
    have C1 := jd c1
    have C2 := jd c2
    have HB2 := jd ((bookB_iff t.book).1 c2)
    clear c0 c1 c2
    have HLB := jd (show t.book.base + (na15 : Int) = lastB t.book by obtain ⟨_, _, _, e, hl, _⟩ := he4.ents; injection e with e1 e2 e3; unfold lastB; omega)
    have HN20 := jd (show na15 ≤ 1048577 by obtain ⟨_, _, _, e, hl, _, _⟩ := he4.ents; injection e with e1 e2 e3; have ye9 := ye4; unfold entSz at ye9; omega)
    cases c5 : (seenOverM t.head.seen t.book.ents).2
    case false =>
     have C5 := jd c5
     go_wp2_with fail
     refine wp_region_L (fun v => Blk v (w.heap.size) #[.slice Aa0 na0 ca0, .slice Aa1 na1 ca1, .slice Aa2 na2 ca2, .slice Aa3 na3 ca3, .int .i64 t.head.num, .int .i64 t.head.base, .int .i64 t.head.tm, .slice Aa7 na7 ca7, .int .i64 t.next.num, .int .i64 t.next.base, .int .i64 t.next.tm, .slice Aa11 na11 ca11, .bool t.more, .int .i64 t.book.base, .int .i64 t.book.tm, .slice Aa15 na15 ca15, .slice Aa16 na16 ca16, .int .i64 t.dur, .slice Aa18 na18 ca18] 52) 25 (by kernel_rfl) ?_
     replace S := S.keep ((Below.refl _ _).drew)
     replace c := c.drew
     generalize w5.drew = w6 at *
     have HF : Blk w6 (w.heap.size) #[.slice Aa0 na0 ca0, .slice Aa1 na1 ca1, .slice Aa2 na2 ca2, .slice Aa3 na3 ca3, .int .i64 t.head.num, .int .i64 t.head.base, .int .i64 t.head.tm, .slice Aa7 na7 ca7, .int .i64 t.next.num, .int .i64 t.next.base, .int .i64 t.next.tm, .slice Aa11 na11 ca11, .bool t.more, .int .i64 t.book.base, .int .i64 t.book.tm, .slice Aa15 na15 ca15, .slice Aa16 na16 ca16, .int .i64 t.dur, .slice Aa18 na18 ca18] 52 := S.at_ 1 rfl
     refine wpAnyL_pure (i := 0) (v := ?_) rfl rfl (by kernel_rfl) (by kernel_rfl) (by kernel_rfl) (fun _ _ _ h => h) HF (Or.inl ⟨by kernel_rfl, ?_⟩) ?_
     rotate_left 1
     · (intro v _; go_simp; try with_reducible rfl)
     try simp only [Act.put]
     refine wpAnyL_pure (i := 1) (v := ?_) rfl rfl (by kernel_rfl) (by kernel_rfl) (by kernel_rfl) (fun _ _ _ h => h) HF (Or.inl ⟨by kernel_rfl, ?_⟩) ?_
     rotate_left 1
     · (intro v _; go_simp; try with_reducible rfl)
     try simp only [Act.put]
     refine wpAnyL_pure (i := 2) (v := ?_) rfl rfl (by kernel_rfl) (by kernel_rfl) (by kernel_rfl) (fun _ _ _ h => h) HF (Or.inl ⟨by kernel_rfl, ?_⟩) ?_
     rotate_left 1
     · (intro v _; go_simp; try with_reducible rfl)
     try simp only [Act.put]
     refine wpAnyL_pure (i := 3) (v := undef) rfl rfl (by kernel_rfl) (by kernel_rfl) (by kernel_rfl) (fun _ _ _ h => h) HF (Or.inr ⟨by kernel_rfl, rfl⟩) ?_
     try simp only [Act.put]
     refine wpAnyL_pure (i := 4) (v := undef) rfl rfl (by kernel_rfl) (by kernel_rfl) (by kernel_rfl) (fun _ _ _ h => h) HF (Or.inr ⟨by kernel_rfl, rfl⟩) ?_
     try simp only [Act.put]
     refine wpAnyL_pure (i := 5) (v := undef) rfl rfl (by kernel_rfl) (by kernel_rfl) (by kernel_rfl) (fun _ _ _ h => h) HF (Or.inr ⟨by kernel_rfl, rfl⟩) ?_
     try simp only [Act.put]
     refine wpAnyL_pure (i := 6) (v := undef) rfl rfl (by kernel_rfl) (by kernel_rfl) (by kernel_rfl) (fun _ _ _ h => h) HF (Or.inr ⟨by kernel_rfl, rfl⟩) ?_
     try simp only [Act.put]
     refine wpAnyL_pure (i := 7) (v := undef) rfl rfl (by kernel_rfl) (by kernel_rfl) (by kernel_rfl) (fun _ _ _ h => h) HF (Or.inr ⟨by kernel_rfl, rfl⟩) ?_
     try simp only [Act.put]
     refine wpAnyL_pure (i := 8) (v := ?_) rfl rfl (by kernel_rfl) (by kernel_rfl) (by kernel_rfl) (fun _ _ _ h => h) HF (Or.inl ⟨by kernel_rfl, ?_⟩) ?_
     rotate_left 1
     · (intro v _; go_simp; try with_reducible rfl)
     try simp only [Act.put]
     refine wpAnyL_pure (i := 9) (v := ?_) rfl rfl (by kernel_rfl) (by kernel_rfl) (by kernel_rfl) (fun _ _ _ h => h) HF (Or.inl ⟨by kernel_rfl, ?_⟩) ?_
     rotate_left 1
     · (intro v _; go_simp; try with_reducible rfl)
     try simp only [Act.put]
     refine wpAnyL_pure (i := 10) (v := undef) rfl rfl (by kernel_rfl) (by kernel_rfl) (by kernel_rfl) (fun _ _ _ h => h) HF (Or.inr ⟨by kernel_rfl, rfl⟩) ?_
     try simp only [Act.put]
     refine wpAnyL_pure (i := 11) (v := undef) rfl rfl (by kernel_rfl) (by kernel_rfl) (by kernel_rfl) (fun _ _ _ h => h) HF (Or.inr ⟨by kernel_rfl, rfl⟩) ?_
     try simp only [Act.put]
     refine wpAnyL_pure (i := 12) (v := undef) rfl rfl (by kernel_rfl) (by kernel_rfl) (by kernel_rfl) (fun _ _ _ h => h) HF (Or.inr ⟨by kernel_rfl, rfl⟩) ?_
     try simp only [Act.put]
     refine wpAnyL_pure (i := 13) (v := undef) rfl rfl (by kernel_rfl) (by kernel_rfl) (by kernel_rfl) (fun _ _ _ h => h) HF (Or.inr ⟨by kernel_rfl, rfl⟩) ?_
     try simp only [Act.put]
     refine wpAnyL_pure (i := 14) (v := undef) rfl rfl (by kernel_rfl) (by kernel_rfl) (by kernel_rfl) (fun _ _ _ h => h) HF (Or.inr ⟨by kernel_rfl, rfl⟩) ?_
     try simp only [Act.put]
     refine wpAnyL_pure (i := 15) (v := undef) rfl rfl (by kernel_rfl) (by kernel_rfl) (by kernel_rfl) (fun _ _ _ h => h) HF (Or.inr ⟨by kernel_rfl, rfl⟩) ?_
     try simp only [Act.put]
     refine wpAnyL_pure (i := 16) (v := undef) rfl rfl (by kernel_rfl) (by kernel_rfl) (by kernel_rfl) (fun _ _ _ h => h) HF (Or.inr ⟨by kernel_rfl, rfl⟩) ?_
     try simp only [Act.put]
     refine wpAnyL_pure (i := 17) (v := undef) rfl rfl (by kernel_rfl) (by kernel_rfl) (by kernel_rfl) (fun _ _ _ h => h) HF (Or.inr ⟨by kernel_rfl, rfl⟩) ?_
     try simp only [Act.put]
     refine wpAnyL_pure (i := 18) (v := undef) rfl rfl (by kernel_rfl) (by kernel_rfl) (by kernel_rfl) (fun _ _ _ h => h) HF (Or.inr ⟨by kernel_rfl, rfl⟩) ?_
     try simp only [Act.put]
     refine wpAnyL_pure (i := 19) (v := undef) rfl rfl (by kernel_rfl) (by kernel_rfl) (by kernel_rfl) (fun _ _ _ h => h) HF (Or.inr ⟨by kernel_rfl, rfl⟩) ?_
     try simp only [Act.put]
     refine wpAnyL_pure (i := 20) (v := ?_) rfl rfl (by kernel_rfl) (by kernel_rfl) (by kernel_rfl) (fun _ _ _ h => h) HF (Or.inl ⟨by kernel_rfl, ?_⟩) ?_
     rotate_left 1
     · (intro v _; go_simp; try with_reducible rfl)
     try simp only [Act.put]
     refine wpAnyL_pure (i := 21) (v := ?_) rfl rfl (by kernel_rfl) (by kernel_rfl) (by kernel_rfl) (fun _ _ _ h => h) HF (Or.inl ⟨by kernel_rfl, ?_⟩) ?_
     rotate_left 1
     · (intro v _; go_simp; try with_reducible rfl)
     try simp only [Act.put]
     refine wpAnyL_pure (i := 22) (v := undef) rfl rfl (by kernel_rfl) (by kernel_rfl) (by kernel_rfl) (fun _ _ _ h => h) HF (Or.inr ⟨by kernel_rfl, rfl⟩) ?_
     try simp only [Act.put]
     refine wpAnyL_pure (i := 23) (v := undef) rfl rfl (by kernel_rfl) (by kernel_rfl) (by kernel_rfl) (fun _ _ _ h => h) HF (Or.inr ⟨by kernel_rfl, rfl⟩) ?_
     try simp only [Act.put]
     refine wpAnyL_pure (i := 24) (v := undef) rfl rfl (by kernel_rfl) (by kernel_rfl) (by kernel_rfl) (fun _ _ _ h => h) HF (Or.inr ⟨by kernel_rfl, rfl⟩) ?_
     try simp only [Act.put]
     refine wpAnyL_step (i := 25) (by kernel_rfl) rfl rfl ?_
     intro K hK
     go_simp
     refine hK _ _ (fun h => nomatch (show true = false from h)) ?_
     clear hK K
     try simp only [Act.put]
     refine wpAnyL_done (by kernel_rfl) ?_ _
     clear HF
     replace S := S.sub (.cons _ (.cons_cons _ (List.nil_sublist _)))
     clear c5
     have HV := jd (show logB t = false from Bool.eq_false_iff.2 fun h9 => by have h9 := (logB_iff t).1 h9; have h8 : logS t = true := h9.2.2.2.2.2.1; unfold logS overN at h8; rw [C5.out] at h8; cases h8)
     have CC := jd c
     clear S c
     go_wp2
     go_ret
     exact ⟨ret_bool HV.out.symm, CC.out⟩
    case true =>
     have C5 := jd c5
     cases c6 : sameMs (seenOverM t.head.seen t.book.ents).1 t.seen
     case false =>
      have C6 := jd c6
      clear c6
      go_wp2_with fail
      refine wp_region_L (fun v => Blk v (w.heap.size) #[.slice Aa0 na0 ca0, .slice Aa1 na1 ca1, .slice Aa2 na2 ca2, .slice Aa3 na3 ca3, .int .i64 t.head.num, .int .i64 t.head.base, .int .i64 t.head.tm, .slice Aa7 na7 ca7, .int .i64 t.next.num, .int .i64 t.next.base, .int .i64 t.next.tm, .slice Aa11 na11 ca11, .bool t.more, .int .i64 t.book.base, .int .i64 t.book.tm, .slice Aa15 na15 ca15, .slice Aa16 na16 ca16, .int .i64 t.dur, .slice Aa18 na18 ca18] 52) 25 (by kernel_rfl) ?_
      replace S := S.keep ((Below.refl _ _).drew)
      replace c := c.drew
      generalize w5.drew = w6 at *
      have HF : Blk w6 (w.heap.size) #[.slice Aa0 na0 ca0, .slice Aa1 na1 ca1, .slice Aa2 na2 ca2, .slice Aa3 na3 ca3, .int .i64 t.head.num, .int .i64 t.head.base, .int .i64 t.head.tm, .slice Aa7 na7 ca7, .int .i64 t.next.num, .int .i64 t.next.base, .int .i64 t.next.tm, .slice Aa11 na11 ca11, .bool t.more, .int .i64 t.book.base, .int .i64 t.book.tm, .slice Aa15 na15 ca15, .slice Aa16 na16 ca16, .int .i64 t.dur, .slice Aa18 na18 ca18] 52 := S.at_ 1 rfl
      refine wpAnyL_pure (i := 0) (v := ?_) rfl rfl (by kernel_rfl) (by kernel_rfl) (by kernel_rfl) (fun _ _ _ h => h) HF (Or.inl ⟨by kernel_rfl, ?_⟩) ?_
      rotate_left 1
      · (intro v _; go_simp; try with_reducible rfl)
      try simp only [Act.put]
      refine wpAnyL_pure (i := 1) (v := ?_) rfl rfl (by kernel_rfl) (by kernel_rfl) (by kernel_rfl) (fun _ _ _ h => h) HF (Or.inl ⟨by kernel_rfl, ?_⟩) ?_
      rotate_left 1
      · (intro v _; go_simp; try with_reducible rfl)
      try simp only [Act.put]
      refine wpAnyL_pure (i := 2) (v := ?_) rfl rfl (by kernel_rfl) (by kernel_rfl) (by kernel_rfl) (fun _ _ _ h => h) HF (Or.inl ⟨by kernel_rfl, ?_⟩) ?_
      rotate_left 1
      · (intro v _; go_simp; try with_reducible rfl)
      try simp only [Act.put]
      refine wpAnyL_pure (i := 3) (v := ?_) rfl rfl (by kernel_rfl) (by kernel_rfl) (by kernel_rfl) (fun _ _ _ h => h) HF (Or.inl ⟨by kernel_rfl, ?_⟩) ?_
      rotate_left 1
      · (intro v _; go_simp; try with_reducible rfl)
      try simp only [Act.put]
      refine wpAnyL_pure (i := 4) (v := ?_) rfl rfl (by kernel_rfl) (by kernel_rfl) (by kernel_rfl) (fun _ _ _ h => h) HF (Or.inl ⟨by kernel_rfl, ?_⟩) ?_
      rotate_left 1
      · (intro v _; go_simp; try with_reducible rfl)
      try simp only [Act.put]
      refine wpAnyL_takeT [21, 20, 9, 8, 7, 6] (i := 5) (v := ?_) rfl rfl (by kernel_rfl) (by kernel_rfl) (by kernel_rfl) (by kernel_rfl) (by kernel_rfl) (fun _ _ _ h => h) HF (Or.inl ⟨by kernel_rfl, ?_⟩) ?_
      rotate_left 1
      · (rintro v a0; have b0 : v.cell? ⟨w.heap.size, 16, none⟩ = some (.slice Aa16 na16 ca16) := a0.cell 16; clear a0; go_simp; try with_reducible rfl)
      try simp only [Act.put]
      refine wpAnyL_stepg (i := 6) (by kernel_rfl) rfl (by kernel_rfl) ?_
      intro K hK
      go_simp
      refine (sSameMs_any A3 _ n3 c3 _ _ _ w.heap.size (seenOverM t.head.seen t.book.ents).1 t.seen _ (S.own_ 0 rfl).rd (hr5.keep c) (Nat.le_refl _) c.size (seenOverM_sz _ _ ys1 ye4) (Nat.le_trans hz5 (by decide))).mono ?_
      rintro e w7 ⟨rfl, b⟩
      replace c := c.trans (b.mono c.size)
      replace S := S.keep b
      clear b
      clear HF
      have HF : Blk w7 (w.heap.size) #[.slice Aa0 na0 ca0, .slice Aa1 na1 ca1, .slice Aa2 na2 ca2, .slice Aa3 na3 ca3, .int .i64 t.head.num, .int .i64 t.head.base, .int .i64 t.head.tm, .slice Aa7 na7 ca7, .int .i64 t.next.num, .int .i64 t.next.base, .int .i64 t.next.tm, .slice Aa11 na11 ca11, .bool t.more, .int .i64 t.book.base, .int .i64 t.book.tm, .slice Aa15 na15 ca15, .slice Aa16 na16 ca16, .int .i64 t.dur, .slice Aa18 na18 ca18] 52 := S.at_ 1 rfl
      refine hK _ _ (fun _ => HF) ?_
      clear hK K
      try simp only [Act.put]
      rw [C6.out]
      refine wpAnyL_pure (i := 7) (v := ?_) rfl rfl (by kernel_rfl) (by kernel_rfl) (by kernel_rfl) (fun _ _ _ h => h) HF (Or.inl ⟨by kernel_rfl, ?_⟩) ?_
      rotate_left 1
      · (intro v _; go_simp; try with_reducible rfl)
      try simp only [Act.put]
      refine wpAnyL_pure (i := 8) (v := ?_) rfl rfl (by kernel_rfl) (by kernel_rfl) (by kernel_rfl) (fun _ _ _ h => h) HF (Or.inl ⟨by kernel_rfl, ?_⟩) ?_
      rotate_left 1
      · (intro v _; go_simp; try with_reducible rfl)
      try simp only [Act.put]
      refine wpAnyL_pure (i := 9) (v := ?_) rfl rfl (by kernel_rfl) (by kernel_rfl) (by kernel_rfl) (fun _ _ _ h => h) HF (Or.inl ⟨by kernel_rfl, ?_⟩) ?_
      rotate_left 1
      · (intro v _; go_simp; try with_reducible rfl)
      try simp only [Act.put]
      refine wpAnyL_pure (i := 10) (v := undef) rfl rfl (by kernel_rfl) (by kernel_rfl) (by kernel_rfl) (fun _ _ _ h => h) HF (Or.inr ⟨by kernel_rfl, rfl⟩) ?_
      try simp only [Act.put]
      refine wpAnyL_pure (i := 11) (v := undef) rfl rfl (by kernel_rfl) (by kernel_rfl) (by kernel_rfl) (fun _ _ _ h => h) HF (Or.inr ⟨by kernel_rfl, rfl⟩) ?_
      try simp only [Act.put]
      refine wpAnyL_pure (i := 12) (v := undef) rfl rfl (by kernel_rfl) (by kernel_rfl) (by kernel_rfl) (fun _ _ _ h => h) HF (Or.inr ⟨by kernel_rfl, rfl⟩) ?_
      try simp only [Act.put]
      refine wpAnyL_pure (i := 13) (v := undef) rfl rfl (by kernel_rfl) (by kernel_rfl) (by kernel_rfl) (fun _ _ _ h => h) HF (Or.inr ⟨by kernel_rfl, rfl⟩) ?_
      try simp only [Act.put]
      refine wpAnyL_pure (i := 14) (v := undef) rfl rfl (by kernel_rfl) (by kernel_rfl) (by kernel_rfl) (fun _ _ _ h => h) HF (Or.inr ⟨by kernel_rfl, rfl⟩) ?_
      try simp only [Act.put]
      refine wpAnyL_pure (i := 15) (v := undef) rfl rfl (by kernel_rfl) (by kernel_rfl) (by kernel_rfl) (fun _ _ _ h => h) HF (Or.inr ⟨by kernel_rfl, rfl⟩) ?_
      try simp only [Act.put]
      refine wpAnyL_pure (i := 16) (v := undef) rfl rfl (by kernel_rfl) (by kernel_rfl) (by kernel_rfl) (fun _ _ _ h => h) HF (Or.inr ⟨by kernel_rfl, rfl⟩) ?_
      try simp only [Act.put]
      refine wpAnyL_pure (i := 17) (v := undef) rfl rfl (by kernel_rfl) (by kernel_rfl) (by kernel_rfl) (fun _ _ _ h => h) HF (Or.inr ⟨by kernel_rfl, rfl⟩) ?_
      try simp only [Act.put]
      refine wpAnyL_pure (i := 18) (v := undef) rfl rfl (by kernel_rfl) (by kernel_rfl) (by kernel_rfl) (fun _ _ _ h => h) HF (Or.inr ⟨by kernel_rfl, rfl⟩) ?_
      try simp only [Act.put]
      refine wpAnyL_pure (i := 19) (v := undef) rfl rfl (by kernel_rfl) (by kernel_rfl) (by kernel_rfl) (fun _ _ _ h => h) HF (Or.inr ⟨by kernel_rfl, rfl⟩) ?_
      try simp only [Act.put]
      refine wpAnyL_pure (i := 20) (v := ?_) rfl rfl (by kernel_rfl) (by kernel_rfl) (by kernel_rfl) (fun _ _ _ h => h) HF (Or.inl ⟨by kernel_rfl, ?_⟩) ?_
      rotate_left 1
      · (intro v _; go_simp; try with_reducible rfl)
      try simp only [Act.put]
      refine wpAnyL_pure (i := 21) (v := ?_) rfl rfl (by kernel_rfl) (by kernel_rfl) (by kernel_rfl) (fun _ _ _ h => h) HF (Or.inl ⟨by kernel_rfl, ?_⟩) ?_
      rotate_left 1
      · (intro v _; go_simp; try with_reducible rfl)
      try simp only [Act.put]
      refine wpAnyL_pure (i := 22) (v := undef) rfl rfl (by kernel_rfl) (by kernel_rfl) (by kernel_rfl) (fun _ _ _ h => h) HF (Or.inr ⟨by kernel_rfl, rfl⟩) ?_
      try simp only [Act.put]
      refine wpAnyL_pure (i := 23) (v := undef) rfl rfl (by kernel_rfl) (by kernel_rfl) (by kernel_rfl) (fun _ _ _ h => h) HF (Or.inr ⟨by kernel_rfl, rfl⟩) ?_
      try simp only [Act.put]
      refine wpAnyL_pure (i := 24) (v := undef) rfl rfl (by kernel_rfl) (by kernel_rfl) (by kernel_rfl) (fun _ _ _ h => h) HF (Or.inr ⟨by kernel_rfl, rfl⟩) ?_
      try simp only [Act.put]
      refine wpAnyL_step (i := 25) (by kernel_rfl) rfl rfl ?_
      intro K hK
      go_simp
      refine hK _ _ (fun h => nomatch (show true = false from h)) ?_
      clear hK K
      try simp only [Act.put]
      refine wpAnyL_done (by kernel_rfl) ?_ _
      clear HF
      replace S := S.sub (.cons _ (.cons_cons _ (List.nil_sublist _)))
      have HV := jd (show logB t = false from Bool.eq_false_iff.2 fun h9 => by have h9 := (logB_iff t).1 h9; have h8 : logS t = true := h9.2.2.2.2.2.1; unfold logS overN at h8; rw [Bool.and_eq_true] at h8; have h7 := (sameMs_iff _ _).2 ((sameMs_iff _ _).1 h8.2).symm; rw [C6.out] at h7; cases h7)
      have CC := jd c
      clear S c
      go_wp2
      go_ret
      exact ⟨ret_bool HV.out.symm, CC.out⟩
     case true =>
      have C6 := jd c6
      clear c6
      cases c7 : inB t.dur t.book.base (lastB t.book)
      case false =>
       have C7 := jd c7
       clear c7
       go_wp2_with fail
       refine wp_region_L (fun v => Blk v (w.heap.size) #[.slice Aa0 na0 ca0, .slice Aa1 na1 ca1, .slice Aa2 na2 ca2, .slice Aa3 na3 ca3, .int .i64 t.head.num, .int .i64 t.head.base, .int .i64 t.head.tm, .slice Aa7 na7 ca7, .int .i64 t.next.num, .int .i64 t.next.base, .int .i64 t.next.tm, .slice Aa11 na11 ca11, .bool t.more, .int .i64 t.book.base, .int .i64 t.book.tm, .slice Aa15 na15 ca15, .slice Aa16 na16 ca16, .int .i64 t.dur, .slice Aa18 na18 ca18] 52) 25 (by kernel_rfl) ?_
       replace S := S.keep ((Below.refl _ _).drew)
       replace c := c.drew
       generalize w5.drew = w6 at *
       have HF : Blk w6 (w.heap.size) #[.slice Aa0 na0 ca0, .slice Aa1 na1 ca1, .slice Aa2 na2 ca2, .slice Aa3 na3 ca3, .int .i64 t.head.num, .int .i64 t.head.base, .int .i64 t.head.tm, .slice Aa7 na7 ca7, .int .i64 t.next.num, .int .i64 t.next.base, .int .i64 t.next.tm, .slice Aa11 na11 ca11, .bool t.more, .int .i64 t.book.base, .int .i64 t.book.tm, .slice Aa15 na15 ca15, .slice Aa16 na16 ca16, .int .i64 t.dur, .slice Aa18 na18 ca18] 52 := S.at_ 1 rfl
       refine wpAnyL_pure (i := 0) (v := ?_) rfl rfl (by kernel_rfl) (by kernel_rfl) (by kernel_rfl) (fun _ _ _ h => h) HF (Or.inl ⟨by kernel_rfl, ?_⟩) ?_
       rotate_left 1
       · (intro v _; go_simp; try with_reducible rfl)
       try simp only [Act.put]
       refine wpAnyL_pure (i := 1) (v := ?_) rfl rfl (by kernel_rfl) (by kernel_rfl) (by kernel_rfl) (fun _ _ _ h => h) HF (Or.inl ⟨by kernel_rfl, ?_⟩) ?_
       rotate_left 1
       · (intro v _; go_simp; try with_reducible rfl)
       try simp only [Act.put]
       refine wpAnyL_pure (i := 2) (v := ?_) rfl rfl (by kernel_rfl) (by kernel_rfl) (by kernel_rfl) (fun _ _ _ h => h) HF (Or.inl ⟨by kernel_rfl, ?_⟩) ?_
       rotate_left 1
       · (intro v _; go_simp; try with_reducible rfl)
       try simp only [Act.put]
       refine wpAnyL_pure (i := 3) (v := ?_) rfl rfl (by kernel_rfl) (by kernel_rfl) (by kernel_rfl) (fun _ _ _ h => h) HF (Or.inl ⟨by kernel_rfl, ?_⟩) ?_
       rotate_left 1
       · (intro v _; go_simp; try with_reducible rfl)
       try simp only [Act.put]
       refine wpAnyL_pure (i := 4) (v := ?_) rfl rfl (by kernel_rfl) (by kernel_rfl) (by kernel_rfl) (fun _ _ _ h => h) HF (Or.inl ⟨by kernel_rfl, ?_⟩) ?_
       rotate_left 1
       · (intro v _; go_simp; try with_reducible rfl)
       try simp only [Act.put]
       refine wpAnyL_takeT [21, 20, 9, 8, 7, 6] (i := 5) (v := ?_) rfl rfl (by kernel_rfl) (by kernel_rfl) (by kernel_rfl) (by kernel_rfl) (by kernel_rfl) (fun _ _ _ h => h) HF (Or.inl ⟨by kernel_rfl, ?_⟩) ?_
       rotate_left 1
       · (rintro v a0; have b0 : v.cell? ⟨w.heap.size, 16, none⟩ = some (.slice Aa16 na16 ca16) := a0.cell 16; clear a0; go_simp; try with_reducible rfl)
       try simp only [Act.put]
       refine wpAnyL_stepg (i := 6) (by kernel_rfl) rfl (by kernel_rfl) ?_
       intro K hK
       go_simp
       refine (sSameMs_any A3 _ n3 c3 _ _ _ w.heap.size (seenOverM t.head.seen t.book.ents).1 t.seen _ (S.own_ 0 rfl).rd (hr5.keep c) (Nat.le_refl _) c.size (seenOverM_sz _ _ ys1 ye4) (Nat.le_trans hz5 (by decide))).mono ?_
       rintro e w7 ⟨rfl, b⟩
       replace c := c.trans (b.mono c.size)
       replace S := S.keep b
       clear b
       clear HF
       have HF : Blk w7 (w.heap.size) #[.slice Aa0 na0 ca0, .slice Aa1 na1 ca1, .slice Aa2 na2 ca2, .slice Aa3 na3 ca3, .int .i64 t.head.num, .int .i64 t.head.base, .int .i64 t.head.tm, .slice Aa7 na7 ca7, .int .i64 t.next.num, .int .i64 t.next.base, .int .i64 t.next.tm, .slice Aa11 na11 ca11, .bool t.more, .int .i64 t.book.base, .int .i64 t.book.tm, .slice Aa15 na15 ca15, .slice Aa16 na16 ca16, .int .i64 t.dur, .slice Aa18 na18 ca18] 52 := S.at_ 1 rfl
       refine hK _ _ (fun _ => HF) ?_
       clear hK K
       try simp only [Act.put]
       rw [C6.out]
       refine wpAnyL_pure (i := 7) (v := ?_) rfl rfl (by kernel_rfl) (by kernel_rfl) (by kernel_rfl) (fun _ _ _ h => h) HF (Or.inl ⟨by kernel_rfl, ?_⟩) ?_
       rotate_left 1
       · (intro v _; go_simp; try with_reducible rfl)
       try simp only [Act.put]
       refine wpAnyL_pure (i := 8) (v := ?_) rfl rfl (by kernel_rfl) (by kernel_rfl) (by kernel_rfl) (fun _ _ _ h => h) HF (Or.inl ⟨by kernel_rfl, ?_⟩) ?_
       rotate_left 1
       · (intro v _; go_simp; try with_reducible rfl)
       try simp only [Act.put]
       refine wpAnyL_pure (i := 9) (v := ?_) rfl rfl (by kernel_rfl) (by kernel_rfl) (by kernel_rfl) (fun _ _ _ h => h) HF (Or.inl ⟨by kernel_rfl, ?_⟩) ?_
       rotate_left 1
       · (intro v _; go_simp; try with_reducible rfl)
       try simp only [Act.put]
       refine wpAnyL_pure (i := 10) (v := ?_) rfl rfl (by kernel_rfl) (by kernel_rfl) (by kernel_rfl) (fun _ _ _ h => h) HF (Or.inl ⟨by kernel_rfl, ?_⟩) ?_
       rotate_left 1
       · (intro v _; go_simp; try with_reducible rfl)
       try simp only [Act.put]
       refine wpAnyL_takeT [21, 20, 19, 18] (i := 11) (v := ?_) rfl rfl (by kernel_rfl) (by kernel_rfl) (by kernel_rfl) (by kernel_rfl) (by kernel_rfl) (fun _ _ _ h => h) HF (Or.inl ⟨by kernel_rfl, ?_⟩) ?_
       rotate_left 1
       · (rintro v a0; have b0 : v.cell? ⟨w.heap.size, 17, none⟩ = some (.int .i64 t.dur) := a0.cell 17; clear a0; go_simp; try with_reducible rfl)
       try simp only [Act.put]
       refine wpAnyL_pure (i := 12) (v := ?_) rfl rfl (by kernel_rfl) (by kernel_rfl) (by kernel_rfl) (fun _ _ _ h => h) HF (Or.inl ⟨by kernel_rfl, ?_⟩) ?_
       rotate_left 1
       · (intro v _; go_simp; try with_reducible rfl)
       try simp only [Act.put]
       refine wpAnyL_pure (i := 13) (v := ?_) rfl rfl (by kernel_rfl) (by kernel_rfl) (by kernel_rfl) (fun _ _ _ h => h) HF (Or.inl ⟨by kernel_rfl, ?_⟩) ?_
       rotate_left 1
       · (intro v _; go_simp; try with_reducible rfl)
       try simp only [Act.put]
       refine wpAnyL_takeT [21, 20, 19, 18] (i := 14) (v := ?_) rfl rfl (by kernel_rfl) (by kernel_rfl) (by kernel_rfl) (by kernel_rfl) (by kernel_rfl) (fun _ _ _ h => h) HF (Or.inl ⟨by kernel_rfl, ?_⟩) ?_
       rotate_left 1
       · (rintro v a0; have b0 : v.cell? ⟨w.heap.size, 13, none⟩ = some (.int .i64 t.book.base) := a0.cell 13; clear a0; go_simp; try with_reducible rfl)
       try simp only [Act.put]
       refine wpAnyL_pure (i := 15) (v := ?_) rfl rfl (by kernel_rfl) (by kernel_rfl) (by kernel_rfl) (fun _ _ _ h => h) HF (Or.inl ⟨by kernel_rfl, ?_⟩) ?_
       rotate_left 1
       · (intro v _; go_simp; try with_reducible rfl)
       try simp only [Act.put]
       refine wpAnyL_takeT [21, 20, 19, 18, 17] (i := 16) (v := ?_) rfl rfl (by kernel_rfl) (by kernel_rfl) (by kernel_rfl) (by kernel_rfl) (by kernel_rfl) (fun _ _ _ h => h) HF (Or.inl ⟨by kernel_rfl, ?_⟩) ?_
       rotate_left 1
       · (rintro v a0; have b0 : v.cell? ⟨w.heap.size, 13, none⟩ = some (.int .i64 t.book.base) := a0.cell 13; have b1 : v.cell? ⟨w.heap.size, 14, none⟩ = some (.int .i64 t.book.tm) := a0.cell 14; have b2 : v.cell? ⟨w.heap.size, 15, none⟩ = some (.slice Aa15 na15 ca15) := a0.cell 15; clear a0; go_simp; try with_reducible rfl)
       try simp only [Act.put]
       refine wpAnyL_stepg (i := 17) (by kernel_rfl) rfl (by kernel_rfl) ?_
       intro K hK
       go_simp
       refine (sLast_any t.book.base t.book.tm _ _ _ _ (by have := HB2.out.1; omega) HN20.out).mono ?_
       rintro e w8 ⟨rfl, b⟩
       replace c := c.trans (b.mono c.size)
       replace S := S.keep b
       clear b
       clear HF
       have HF : Blk w8 (w.heap.size) #[.slice Aa0 na0 ca0, .slice Aa1 na1 ca1, .slice Aa2 na2 ca2, .slice Aa3 na3 ca3, .int .i64 t.head.num, .int .i64 t.head.base, .int .i64 t.head.tm, .slice Aa7 na7 ca7, .int .i64 t.next.num, .int .i64 t.next.base, .int .i64 t.next.tm, .slice Aa11 na11 ca11, .bool t.more, .int .i64 t.book.base, .int .i64 t.book.tm, .slice Aa15 na15 ca15, .slice Aa16 na16 ca16, .int .i64 t.dur, .slice Aa18 na18 ca18] 52 := S.at_ 1 rfl
       refine hK _ _ (fun _ => HF) ?_
       clear hK K
       try simp only [Act.put]
       rw [HLB.out]
       refine wpAnyL_stepg (i := 18) (by kernel_rfl) rfl (by kernel_rfl) ?_
       intro K hK
       go_simp
       refine (in_at t.dur t.book.base (lastB t.book) _).mono ?_
       rintro e w9 ⟨rfl, b⟩
       replace c := c.trans (b.mono c.size)
       replace S := S.keep b
       clear b
       clear HF
       have HF : Blk w9 (w.heap.size) #[.slice Aa0 na0 ca0, .slice Aa1 na1 ca1, .slice Aa2 na2 ca2, .slice Aa3 na3 ca3, .int .i64 t.head.num, .int .i64 t.head.base, .int .i64 t.head.tm, .slice Aa7 na7 ca7, .int .i64 t.next.num, .int .i64 t.next.base, .int .i64 t.next.tm, .slice Aa11 na11 ca11, .bool t.more, .int .i64 t.book.base, .int .i64 t.book.tm, .slice Aa15 na15 ca15, .slice Aa16 na16 ca16, .int .i64 t.dur, .slice Aa18 na18 ca18] 52 := S.at_ 1 rfl
       refine hK _ _ (fun _ => HF) ?_
       clear hK K
       try simp only [Act.put]
       rw [C7.out]
       refine wpAnyL_pure (i := 19) (v := ?_) rfl rfl (by kernel_rfl) (by kernel_rfl) (by kernel_rfl) (fun _ _ _ h => h) HF (Or.inl ⟨by kernel_rfl, ?_⟩) ?_
       rotate_left 1
       · (intro v _; go_simp; try with_reducible rfl)
       try simp only [Act.put]
       refine wpAnyL_pure (i := 20) (v := ?_) rfl rfl (by kernel_rfl) (by kernel_rfl) (by kernel_rfl) (fun _ _ _ h => h) HF (Or.inl ⟨by kernel_rfl, ?_⟩) ?_
       rotate_left 1
       · (intro v _; go_simp; try with_reducible rfl)
       try simp only [Act.put]
       refine wpAnyL_pure (i := 21) (v := ?_) rfl rfl (by kernel_rfl) (by kernel_rfl) (by kernel_rfl) (fun _ _ _ h => h) HF (Or.inl ⟨by kernel_rfl, ?_⟩) ?_
       rotate_left 1
       · (intro v _; go_simp; try with_reducible rfl)
       try simp only [Act.put]
       refine wpAnyL_pure (i := 22) (v := undef) rfl rfl (by kernel_rfl) (by kernel_rfl) (by kernel_rfl) (fun _ _ _ h => h) HF (Or.inr ⟨by kernel_rfl, rfl⟩) ?_
       try simp only [Act.put]
       refine wpAnyL_pure (i := 23) (v := undef) rfl rfl (by kernel_rfl) (by kernel_rfl) (by kernel_rfl) (fun _ _ _ h => h) HF (Or.inr ⟨by kernel_rfl, rfl⟩) ?_
       try simp only [Act.put]
       refine wpAnyL_pure (i := 24) (v := undef) rfl rfl (by kernel_rfl) (by kernel_rfl) (by kernel_rfl) (fun _ _ _ h => h) HF (Or.inr ⟨by kernel_rfl, rfl⟩) ?_
       try simp only [Act.put]
       refine wpAnyL_step (i := 25) (by kernel_rfl) rfl rfl ?_
       intro K hK
       go_simp
       refine hK _ _ (fun h => nomatch (show true = false from h)) ?_
       clear hK K
       try simp only [Act.put]
       refine wpAnyL_done (by kernel_rfl) ?_ _
       clear HF
       replace S := S.sub (.cons _ (.cons_cons _ (List.nil_sublist _)))
       have HV := jd (show logB t = false from Bool.eq_false_iff.2 fun h9 => by have h9 := (logB_iff t).1 h9; have h8 : logD t = true := h9.2.2.2.2.2.2.1; unfold logD at h8; rw [C7.out] at h8; cases h8)
       have CC := jd c
       clear S c
       go_wp2
       go_ret
       exact ⟨ret_bool HV.out.symm, CC.out⟩
      case true =>
       have C7 := jd c7
       clear c7
       have HDU := jd (show 0 ≤ t.dur ∧ t.dur ≤ 1000000 by have h7 := (inB_iff _ _ _).1 C7.out; have h8 := HB2.out; unfold lastB at h7; omega)
       cases c8 : logW t
       case false =>
        have C8 := jd c8
        clear c8
        go_wp2_with fail
        refine wp_region_L (fun v => Blk v (w.heap.size) #[.slice Aa0 na0 ca0, .slice Aa1 na1 ca1, .slice Aa2 na2 ca2, .slice Aa3 na3 ca3, .int .i64 t.head.num, .int .i64 t.head.base, .int .i64 t.head.tm, .slice Aa7 na7 ca7, .int .i64 t.next.num, .int .i64 t.next.base, .int .i64 t.next.tm, .slice Aa11 na11 ca11, .bool t.more, .int .i64 t.book.base, .int .i64 t.book.tm, .slice Aa15 na15 ca15, .slice Aa16 na16 ca16, .int .i64 t.dur, .slice Aa18 na18 ca18] 52) 25 (by kernel_rfl) ?_
        replace S := S.keep ((Below.refl _ _).drew)
        replace c := c.drew
        generalize w5.drew = w6 at *
        have HF : Blk w6 (w.heap.size) #[.slice Aa0 na0 ca0, .slice Aa1 na1 ca1, .slice Aa2 na2 ca2, .slice Aa3 na3 ca3, .int .i64 t.head.num, .int .i64 t.head.base, .int .i64 t.head.tm, .slice Aa7 na7 ca7, .int .i64 t.next.num, .int .i64 t.next.base, .int .i64 t.next.tm, .slice Aa11 na11 ca11, .bool t.more, .int .i64 t.book.base, .int .i64 t.book.tm, .slice Aa15 na15 ca15, .slice Aa16 na16 ca16, .int .i64 t.dur, .slice Aa18 na18 ca18] 52 := S.at_ 1 rfl
        refine wpAnyL_pure (i := 0) (v := ?_) rfl rfl (by kernel_rfl) (by kernel_rfl) (by kernel_rfl) (fun _ _ _ h => h) HF (Or.inl ⟨by kernel_rfl, ?_⟩) ?_
        rotate_left 1
        · (intro v _; go_simp; try with_reducible rfl)
        try simp only [Act.put]
        refine wpAnyL_pure (i := 1) (v := ?_) rfl rfl (by kernel_rfl) (by kernel_rfl) (by kernel_rfl) (fun _ _ _ h => h) HF (Or.inl ⟨by kernel_rfl, ?_⟩) ?_
        rotate_left 1
        · (intro v _; go_simp; try with_reducible rfl)
        try simp only [Act.put]
        refine wpAnyL_pure (i := 2) (v := ?_) rfl rfl (by kernel_rfl) (by kernel_rfl) (by kernel_rfl) (fun _ _ _ h => h) HF (Or.inl ⟨by kernel_rfl, ?_⟩) ?_
        rotate_left 1
        · (intro v _; go_simp; try with_reducible rfl)
        try simp only [Act.put]
        refine wpAnyL_pure (i := 3) (v := ?_) rfl rfl (by kernel_rfl) (by kernel_rfl) (by kernel_rfl) (fun _ _ _ h => h) HF (Or.inl ⟨by kernel_rfl, ?_⟩) ?_
        rotate_left 1
        · (intro v _; go_simp; try with_reducible rfl)
        try simp only [Act.put]
        refine wpAnyL_pure (i := 4) (v := ?_) rfl rfl (by kernel_rfl) (by kernel_rfl) (by kernel_rfl) (fun _ _ _ h => h) HF (Or.inl ⟨by kernel_rfl, ?_⟩) ?_
        rotate_left 1
        · (intro v _; go_simp; try with_reducible rfl)
        try simp only [Act.put]
        refine wpAnyL_takeT [21, 20, 9, 8, 7, 6] (i := 5) (v := ?_) rfl rfl (by kernel_rfl) (by kernel_rfl) (by kernel_rfl) (by kernel_rfl) (by kernel_rfl) (fun _ _ _ h => h) HF (Or.inl ⟨by kernel_rfl, ?_⟩) ?_
        rotate_left 1
        · (rintro v a0; have b0 : v.cell? ⟨w.heap.size, 16, none⟩ = some (.slice Aa16 na16 ca16) := a0.cell 16; clear a0; go_simp; try with_reducible rfl)
        try simp only [Act.put]
        refine wpAnyL_stepg (i := 6) (by kernel_rfl) rfl (by kernel_rfl) ?_
        intro K hK
        go_simp
        refine (sSameMs_any A3 _ n3 c3 _ _ _ w.heap.size (seenOverM t.head.seen t.book.ents).1 t.seen _ (S.own_ 0 rfl).rd (hr5.keep c) (Nat.le_refl _) c.size (seenOverM_sz _ _ ys1 ye4) (Nat.le_trans hz5 (by decide))).mono ?_
        rintro e w7 ⟨rfl, b⟩
        replace c := c.trans (b.mono c.size)
        replace S := S.keep b
        clear b
        clear HF
        have HF : Blk w7 (w.heap.size) #[.slice Aa0 na0 ca0, .slice Aa1 na1 ca1, .slice Aa2 na2 ca2, .slice Aa3 na3 ca3, .int .i64 t.head.num, .int .i64 t.head.base, .int .i64 t.head.tm, .slice Aa7 na7 ca7, .int .i64 t.next.num, .int .i64 t.next.base, .int .i64 t.next.tm, .slice Aa11 na11 ca11, .bool t.more, .int .i64 t.book.base, .int .i64 t.book.tm, .slice Aa15 na15 ca15, .slice Aa16 na16 ca16, .int .i64 t.dur, .slice Aa18 na18 ca18] 52 := S.at_ 1 rfl
        refine hK _ _ (fun _ => HF) ?_
        clear hK K
        try simp only [Act.put]
        rw [C6.out]
        refine wpAnyL_pure (i := 7) (v := ?_) rfl rfl (by kernel_rfl) (by kernel_rfl) (by kernel_rfl) (fun _ _ _ h => h) HF (Or.inl ⟨by kernel_rfl, ?_⟩) ?_
        rotate_left 1
        · (intro v _; go_simp; try with_reducible rfl)
        try simp only [Act.put]
        refine wpAnyL_pure (i := 8) (v := ?_) rfl rfl (by kernel_rfl) (by kernel_rfl) (by kernel_rfl) (fun _ _ _ h => h) HF (Or.inl ⟨by kernel_rfl, ?_⟩) ?_
        rotate_left 1
        · (intro v _; go_simp; try with_reducible rfl)
        try simp only [Act.put]
        refine wpAnyL_pure (i := 9) (v := ?_) rfl rfl (by kernel_rfl) (by kernel_rfl) (by kernel_rfl) (fun _ _ _ h => h) HF (Or.inl ⟨by kernel_rfl, ?_⟩) ?_
        rotate_left 1
        · (intro v _; go_simp; try with_reducible rfl)
        try simp only [Act.put]
        refine wpAnyL_pure (i := 10) (v := ?_) rfl rfl (by kernel_rfl) (by kernel_rfl) (by kernel_rfl) (fun _ _ _ h => h) HF (Or.inl ⟨by kernel_rfl, ?_⟩) ?_
        rotate_left 1
        · (intro v _; go_simp; try with_reducible rfl)
        try simp only [Act.put]
        refine wpAnyL_takeT [21, 20, 19, 18] (i := 11) (v := ?_) rfl rfl (by kernel_rfl) (by kernel_rfl) (by kernel_rfl) (by kernel_rfl) (by kernel_rfl) (fun _ _ _ h => h) HF (Or.inl ⟨by kernel_rfl, ?_⟩) ?_
        rotate_left 1
        · (rintro v a0; have b0 : v.cell? ⟨w.heap.size, 17, none⟩ = some (.int .i64 t.dur) := a0.cell 17; clear a0; go_simp; try with_reducible rfl)
        try simp only [Act.put]
        refine wpAnyL_pure (i := 12) (v := ?_) rfl rfl (by kernel_rfl) (by kernel_rfl) (by kernel_rfl) (fun _ _ _ h => h) HF (Or.inl ⟨by kernel_rfl, ?_⟩) ?_
        rotate_left 1
        · (intro v _; go_simp; try with_reducible rfl)
        try simp only [Act.put]
        refine wpAnyL_pure (i := 13) (v := ?_) rfl rfl (by kernel_rfl) (by kernel_rfl) (by kernel_rfl) (fun _ _ _ h => h) HF (Or.inl ⟨by kernel_rfl, ?_⟩) ?_
        rotate_left 1
        · (intro v _; go_simp; try with_reducible rfl)
        try simp only [Act.put]
        refine wpAnyL_takeT [21, 20, 19, 18] (i := 14) (v := ?_) rfl rfl (by kernel_rfl) (by kernel_rfl) (by kernel_rfl) (by kernel_rfl) (by kernel_rfl) (fun _ _ _ h => h) HF (Or.inl ⟨by kernel_rfl, ?_⟩) ?_
        rotate_left 1
        · (rintro v a0; have b0 : v.cell? ⟨w.heap.size, 13, none⟩ = some (.int .i64 t.book.base) := a0.cell 13; clear a0; go_simp; try with_reducible rfl)
        try simp only [Act.put]
        refine wpAnyL_pure (i := 15) (v := ?_) rfl rfl (by kernel_rfl) (by kernel_rfl) (by kernel_rfl) (fun _ _ _ h => h) HF (Or.inl ⟨by kernel_rfl, ?_⟩) ?_
        rotate_left 1
        · (intro v _; go_simp; try with_reducible rfl)
        try simp only [Act.put]
        refine wpAnyL_takeT [21, 20, 19, 18, 17] (i := 16) (v := ?_) rfl rfl (by kernel_rfl) (by kernel_rfl) (by kernel_rfl) (by kernel_rfl) (by kernel_rfl) (fun _ _ _ h => h) HF (Or.inl ⟨by kernel_rfl, ?_⟩) ?_
        rotate_left 1
        · (rintro v a0; have b0 : v.cell? ⟨w.heap.size, 13, none⟩ = some (.int .i64 t.book.base) := a0.cell 13; have b1 : v.cell? ⟨w.heap.size, 14, none⟩ = some (.int .i64 t.book.tm) := a0.cell 14; have b2 : v.cell? ⟨w.heap.size, 15, none⟩ = some (.slice Aa15 na15 ca15) := a0.cell 15; clear a0; go_simp; try with_reducible rfl)
        try simp only [Act.put]
        refine wpAnyL_stepg (i := 17) (by kernel_rfl) rfl (by kernel_rfl) ?_
        intro K hK
        go_simp
        refine (sLast_any t.book.base t.book.tm _ _ _ _ (by have := HB2.out.1; omega) HN20.out).mono ?_
        rintro e w8 ⟨rfl, b⟩
        replace c := c.trans (b.mono c.size)
        replace S := S.keep b
        clear b
        clear HF
        have HF : Blk w8 (w.heap.size) #[.slice Aa0 na0 ca0, .slice Aa1 na1 ca1, .slice Aa2 na2 ca2, .slice Aa3 na3 ca3, .int .i64 t.head.num, .int .i64 t.head.base, .int .i64 t.head.tm, .slice Aa7 na7 ca7, .int .i64 t.next.num, .int .i64 t.next.base, .int .i64 t.next.tm, .slice Aa11 na11 ca11, .bool t.more, .int .i64 t.book.base, .int .i64 t.book.tm, .slice Aa15 na15 ca15, .slice Aa16 na16 ca16, .int .i64 t.dur, .slice Aa18 na18 ca18] 52 := S.at_ 1 rfl
        refine hK _ _ (fun _ => HF) ?_
        clear hK K
        try simp only [Act.put]
        rw [HLB.out]
        refine wpAnyL_stepg (i := 18) (by kernel_rfl) rfl (by kernel_rfl) ?_
        intro K hK
        go_simp
        refine (in_at t.dur t.book.base (lastB t.book) _).mono ?_
        rintro e w9 ⟨rfl, b⟩
        replace c := c.trans (b.mono c.size)
        replace S := S.keep b
        clear b
        clear HF
        have HF : Blk w9 (w.heap.size) #[.slice Aa0 na0 ca0, .slice Aa1 na1 ca1, .slice Aa2 na2 ca2, .slice Aa3 na3 ca3, .int .i64 t.head.num, .int .i64 t.head.base, .int .i64 t.head.tm, .slice Aa7 na7 ca7, .int .i64 t.next.num, .int .i64 t.next.base, .int .i64 t.next.tm, .slice Aa11 na11 ca11, .bool t.more, .int .i64 t.book.base, .int .i64 t.book.tm, .slice Aa15 na15 ca15, .slice Aa16 na16 ca16, .int .i64 t.dur, .slice Aa18 na18 ca18] 52 := S.at_ 1 rfl
        refine hK _ _ (fun _ => HF) ?_
        clear hK K
        try simp only [Act.put]
        rw [C7.out]
        refine wpAnyL_pure (i := 19) (v := ?_) rfl rfl (by kernel_rfl) (by kernel_rfl) (by kernel_rfl) (fun _ _ _ h => h) HF (Or.inl ⟨by kernel_rfl, ?_⟩) ?_
        rotate_left 1
        · (intro v _; go_simp; try with_reducible rfl)
        try simp only [Act.put]
        refine wpAnyL_pure (i := 20) (v := ?_) rfl rfl (by kernel_rfl) (by kernel_rfl) (by kernel_rfl) (fun _ _ _ h => h) HF (Or.inl ⟨by kernel_rfl, ?_⟩) ?_
        rotate_left 1
        · (intro v _; go_simp; try with_reducible rfl)
        try simp only [Act.put]
        refine wpAnyL_pure (i := 21) (v := ?_) rfl rfl (by kernel_rfl) (by kernel_rfl) (by kernel_rfl) (fun _ _ _ h => h) HF (Or.inl ⟨by kernel_rfl, ?_⟩) ?_
        rotate_left 1
        · (intro v _; go_simp; try with_reducible rfl)
        try simp only [Act.put]
        refine wpAnyL_takeT [24, 23] (i := 22) (v := .agg #[.slice Aa0 na0 ca0, .slice Aa1 na1 ca1, .slice Aa2 na2 ca2, .slice Aa3 na3 ca3, .int .i64 t.head.num, .int .i64 t.head.base, .int .i64 t.head.tm, .slice Aa7 na7 ca7, .int .i64 t.next.num, .int .i64 t.next.base, .int .i64 t.next.tm, .slice Aa11 na11 ca11, .bool t.more, .int .i64 t.book.base, .int .i64 t.book.tm, .slice Aa15 na15 ca15, .slice Aa16 na16 ca16, .int .i64 t.dur, .slice Aa18 na18 ca18]) rfl rfl (by kernel_rfl) (by kernel_rfl) (by kernel_rfl) (by kernel_rfl) (by kernel_rfl) (fun _ _ _ h => h) HF (yieldsIf_load_box (by kernel_rfl) 52 _ (by rfl) (w.heap.size) (by rfl) _ _ (fun _ h => h) _ Tryz.underlying52 (by rfl) (by kernel_rfl)) ?_
        try simp only [Act.put]
        refine wpAnyL_stepg (i := 23) (by kernel_rfl) rfl (by kernel_rfl) ?_
        intro K hK
        go_simp
        refine (sOwes_any _ _ _ _ _ _ _ _ _ _ _ _ _ _ _ _ _ _ _ t _ ((HH.out.keep c).up c.size) HZ.out HDU.out).mono ?_
        rintro e w10 ⟨rfl, b⟩
        replace c := c.trans (b.mono c.size)
        replace S := S.keep b
        clear b
        clear HF
        have HF : Blk w10 (w.heap.size) #[.slice Aa0 na0 ca0, .slice Aa1 na1 ca1, .slice Aa2 na2 ca2, .slice Aa3 na3 ca3, .int .i64 t.head.num, .int .i64 t.head.base, .int .i64 t.head.tm, .slice Aa7 na7 ca7, .int .i64 t.next.num, .int .i64 t.next.base, .int .i64 t.next.tm, .slice Aa11 na11 ca11, .bool t.more, .int .i64 t.book.base, .int .i64 t.book.tm, .slice Aa15 na15 ca15, .slice Aa16 na16 ca16, .int .i64 t.dur, .slice Aa18 na18 ca18] 52 := S.at_ 1 rfl
        refine hK _ _ (fun _ => HF) ?_
        clear hK K
        try simp only [Act.put]
        rw [C8.out]
        refine wpAnyL_pure (i := 24) (v := ?_) rfl rfl (by kernel_rfl) (by kernel_rfl) (by kernel_rfl) (fun _ _ _ h => h) HF (Or.inl ⟨by kernel_rfl, ?_⟩) ?_
        rotate_left 1
        · (intro v _; go_simp; try with_reducible rfl)
        try simp only [Act.put]
        refine wpAnyL_step (i := 25) (by kernel_rfl) rfl rfl ?_
        intro K hK
        go_simp
        refine hK _ _ (fun h => nomatch (show true = false from h)) ?_
        clear hK K
        try simp only [Act.put]
        refine wpAnyL_done (by kernel_rfl) ?_ _
        clear HF
        replace S := S.sub (.cons _ (.cons_cons _ (List.nil_sublist _)))
        have HV := jd (show logB t = false from Bool.eq_false_iff.2 fun h9 => by have h9 := (logB_iff t).1 h9; rw [h9.2.2.2.2.2.2.2.2] at C8; exact absurd C8.out (by decide))
        have CC := jd c
        clear S c
        go_wp2
        go_ret
        exact ⟨ret_bool HV.out.symm, CC.out⟩
       case true =>
        have C8 := jd c8
        clear c8
        go_wp2_with fail
        refine wp_region_L (fun v => Blk v (w.heap.size) #[.slice Aa0 na0 ca0, .slice Aa1 na1 ca1, .slice Aa2 na2 ca2, .slice Aa3 na3 ca3, .int .i64 t.head.num, .int .i64 t.head.base, .int .i64 t.head.tm, .slice Aa7 na7 ca7, .int .i64 t.next.num, .int .i64 t.next.base, .int .i64 t.next.tm, .slice Aa11 na11 ca11, .bool t.more, .int .i64 t.book.base, .int .i64 t.book.tm, .slice Aa15 na15 ca15, .slice Aa16 na16 ca16, .int .i64 t.dur, .slice Aa18 na18 ca18] 52) 25 (by kernel_rfl) ?_
        replace S := S.keep ((Below.refl _ _).drew)
        replace c := c.drew
        generalize w5.drew = w6 at *
        have HF : Blk w6 (w.heap.size) #[.slice Aa0 na0 ca0, .slice Aa1 na1 ca1, .slice Aa2 na2 ca2, .slice Aa3 na3 ca3, .int .i64 t.head.num, .int .i64 t.head.base, .int .i64 t.head.tm, .slice Aa7 na7 ca7, .int .i64 t.next.num, .int .i64 t.next.base, .int .i64 t.next.tm, .slice Aa11 na11 ca11, .bool t.more, .int .i64 t.book.base, .int .i64 t.book.tm, .slice Aa15 na15 ca15, .slice Aa16 na16 ca16, .int .i64 t.dur, .slice Aa18 na18 ca18] 52 := S.at_ 1 rfl
        refine wpAnyL_pure (i := 0) (v := ?_) rfl rfl (by kernel_rfl) (by kernel_rfl) (by kernel_rfl) (fun _ _ _ h => h) HF (Or.inl ⟨by kernel_rfl, ?_⟩) ?_
        rotate_left 1
        · (intro v _; go_simp; try with_reducible rfl)
        try simp only [Act.put]
        refine wpAnyL_pure (i := 1) (v := ?_) rfl rfl (by kernel_rfl) (by kernel_rfl) (by kernel_rfl) (fun _ _ _ h => h) HF (Or.inl ⟨by kernel_rfl, ?_⟩) ?_
        rotate_left 1
        · (intro v _; go_simp; try with_reducible rfl)
        try simp only [Act.put]
        refine wpAnyL_pure (i := 2) (v := ?_) rfl rfl (by kernel_rfl) (by kernel_rfl) (by kernel_rfl) (fun _ _ _ h => h) HF (Or.inl ⟨by kernel_rfl, ?_⟩) ?_
        rotate_left 1
        · (intro v _; go_simp; try with_reducible rfl)
        try simp only [Act.put]
        refine wpAnyL_pure (i := 3) (v := ?_) rfl rfl (by kernel_rfl) (by kernel_rfl) (by kernel_rfl) (fun _ _ _ h => h) HF (Or.inl ⟨by kernel_rfl, ?_⟩) ?_
        rotate_left 1
        · (intro v _; go_simp; try with_reducible rfl)
        try simp only [Act.put]
        refine wpAnyL_pure (i := 4) (v := ?_) rfl rfl (by kernel_rfl) (by kernel_rfl) (by kernel_rfl) (fun _ _ _ h => h) HF (Or.inl ⟨by kernel_rfl, ?_⟩) ?_
        rotate_left 1
        · (intro v _; go_simp; try with_reducible rfl)
        try simp only [Act.put]
        refine wpAnyL_takeT [21, 20, 9, 8, 7, 6] (i := 5) (v := ?_) rfl rfl (by kernel_rfl) (by kernel_rfl) (by kernel_rfl) (by kernel_rfl) (by kernel_rfl) (fun _ _ _ h => h) HF (Or.inl ⟨by kernel_rfl, ?_⟩) ?_
        rotate_left 1
        · (rintro v a0; have b0 : v.cell? ⟨w.heap.size, 16, none⟩ = some (.slice Aa16 na16 ca16) := a0.cell 16; clear a0; go_simp; try with_reducible rfl)
        try simp only [Act.put]
        refine wpAnyL_stepg (i := 6) (by kernel_rfl) rfl (by kernel_rfl) ?_
        intro K hK
        go_simp
        refine (sSameMs_any A3 _ n3 c3 _ _ _ w.heap.size (seenOverM t.head.seen t.book.ents).1 t.seen _ (S.own_ 0 rfl).rd (hr5.keep c) (Nat.le_refl _) c.size (seenOverM_sz _ _ ys1 ye4) (Nat.le_trans hz5 (by decide))).mono ?_
        rintro e w7 ⟨rfl, b⟩
        replace c := c.trans (b.mono c.size)
        replace S := S.keep b
        clear b
        clear HF
        have HF : Blk w7 (w.heap.size) #[.slice Aa0 na0 ca0, .slice Aa1 na1 ca1, .slice Aa2 na2 ca2, .slice Aa3 na3 ca3, .int .i64 t.head.num, .int .i64 t.head.base, .int .i64 t.head.tm, .slice Aa7 na7 ca7, .int .i64 t.next.num, .int .i64 t.next.base, .int .i64 t.next.tm, .slice Aa11 na11 ca11, .bool t.more, .int .i64 t.book.base, .int .i64 t.book.tm, .slice Aa15 na15 ca15, .slice Aa16 na16 ca16, .int .i64 t.dur, .slice Aa18 na18 ca18] 52 := S.at_ 1 rfl
        refine hK _ _ (fun _ => HF) ?_
        clear hK K
        try simp only [Act.put]
        rw [C6.out]
        refine wpAnyL_pure (i := 7) (v := ?_) rfl rfl (by kernel_rfl) (by kernel_rfl) (by kernel_rfl) (fun _ _ _ h => h) HF (Or.inl ⟨by kernel_rfl, ?_⟩) ?_
        rotate_left 1
        · (intro v _; go_simp; try with_reducible rfl)
        try simp only [Act.put]
        refine wpAnyL_pure (i := 8) (v := ?_) rfl rfl (by kernel_rfl) (by kernel_rfl) (by kernel_rfl) (fun _ _ _ h => h) HF (Or.inl ⟨by kernel_rfl, ?_⟩) ?_
        rotate_left 1
        · (intro v _; go_simp; try with_reducible rfl)
        try simp only [Act.put]
        refine wpAnyL_pure (i := 9) (v := ?_) rfl rfl (by kernel_rfl) (by kernel_rfl) (by kernel_rfl) (fun _ _ _ h => h) HF (Or.inl ⟨by kernel_rfl, ?_⟩) ?_
        rotate_left 1
        · (intro v _; go_simp; try with_reducible rfl)
        try simp only [Act.put]
        refine wpAnyL_pure (i := 10) (v := ?_) rfl rfl (by kernel_rfl) (by kernel_rfl) (by kernel_rfl) (fun _ _ _ h => h) HF (Or.inl ⟨by kernel_rfl, ?_⟩) ?_
        rotate_left 1
        · (intro v _; go_simp; try with_reducible rfl)
        try simp only [Act.put]
        refine wpAnyL_takeT [21, 20, 19, 18] (i := 11) (v := ?_) rfl rfl (by kernel_rfl) (by kernel_rfl) (by kernel_rfl) (by kernel_rfl) (by kernel_rfl) (fun _ _ _ h => h) HF (Or.inl ⟨by kernel_rfl, ?_⟩) ?_
        rotate_left 1
        · (rintro v a0; have b0 : v.cell? ⟨w.heap.size, 17, none⟩ = some (.int .i64 t.dur) := a0.cell 17; clear a0; go_simp; try with_reducible rfl)
        try simp only [Act.put]
        refine wpAnyL_pure (i := 12) (v := ?_) rfl rfl (by kernel_rfl) (by kernel_rfl) (by kernel_rfl) (fun _ _ _ h => h) HF (Or.inl ⟨by kernel_rfl, ?_⟩) ?_
        rotate_left 1
        · (intro v _; go_simp; try with_reducible rfl)
        try simp only [Act.put]
        refine wpAnyL_pure (i := 13) (v := ?_) rfl rfl (by kernel_rfl) (by kernel_rfl) (by kernel_rfl) (fun _ _ _ h => h) HF (Or.inl ⟨by kernel_rfl, ?_⟩) ?_
        rotate_left 1
        · (intro v _; go_simp; try with_reducible rfl)
        try simp only [Act.put]
        refine wpAnyL_takeT [21, 20, 19, 18] (i := 14) (v := ?_) rfl rfl (by kernel_rfl) (by kernel_rfl) (by kernel_rfl) (by kernel_rfl) (by kernel_rfl) (fun _ _ _ h => h) HF (Or.inl ⟨by kernel_rfl, ?_⟩) ?_
        rotate_left 1
        · (rintro v a0; have b0 : v.cell? ⟨w.heap.size, 13, none⟩ = some (.int .i64 t.book.base) := a0.cell 13; clear a0; go_simp; try with_reducible rfl)
        try simp only [Act.put]
        refine wpAnyL_pure (i := 15) (v := ?_) rfl rfl (by kernel_rfl) (by kernel_rfl) (by kernel_rfl) (fun _ _ _ h => h) HF (Or.inl ⟨by kernel_rfl, ?_⟩) ?_
        rotate_left 1
        · (intro v _; go_simp; try with_reducible rfl)
        try simp only [Act.put]
        refine wpAnyL_takeT [21, 20, 19, 18, 17] (i := 16) (v := ?_) rfl rfl (by kernel_rfl) (by kernel_rfl) (by kernel_rfl) (by kernel_rfl) (by kernel_rfl) (fun _ _ _ h => h) HF (Or.inl ⟨by kernel_rfl, ?_⟩) ?_
        rotate_left 1
        · (rintro v a0; have b0 : v.cell? ⟨w.heap.size, 13, none⟩ = some (.int .i64 t.book.base) := a0.cell 13; have b1 : v.cell? ⟨w.heap.size, 14, none⟩ = some (.int .i64 t.book.tm) := a0.cell 14; have b2 : v.cell? ⟨w.heap.size, 15, none⟩ = some (.slice Aa15 na15 ca15) := a0.cell 15; clear a0; go_simp; try with_reducible rfl)
        try simp only [Act.put]
        refine wpAnyL_stepg (i := 17) (by kernel_rfl) rfl (by kernel_rfl) ?_
        intro K hK
        go_simp
        refine (sLast_any t.book.base t.book.tm _ _ _ _ (by have := HB2.out.1; omega) HN20.out).mono ?_
        rintro e w8 ⟨rfl, b⟩
        replace c := c.trans (b.mono c.size)
        replace S := S.keep b
        clear b
        clear HF
        have HF : Blk w8 (w.heap.size) #[.slice Aa0 na0 ca0, .slice Aa1 na1 ca1, .slice Aa2 na2 ca2, .slice Aa3 na3 ca3, .int .i64 t.head.num, .int .i64 t.head.base, .int .i64 t.head.tm, .slice Aa7 na7 ca7, .int .i64 t.next.num, .int .i64 t.next.base, .int .i64 t.next.tm, .slice Aa11 na11 ca11, .bool t.more, .int .i64 t.book.base, .int .i64 t.book.tm, .slice Aa15 na15 ca15, .slice Aa16 na16 ca16, .int .i64 t.dur, .slice Aa18 na18 ca18] 52 := S.at_ 1 rfl
        refine hK _ _ (fun _ => HF) ?_
        clear hK K
        try simp only [Act.put]
        rw [HLB.out]
        refine wpAnyL_stepg (i := 18) (by kernel_rfl) rfl (by kernel_rfl) ?_
        intro K hK
        go_simp
        refine (in_at t.dur t.book.base (lastB t.book) _).mono ?_
        rintro e w9 ⟨rfl, b⟩
        replace c := c.trans (b.mono c.size)
        replace S := S.keep b
        clear b
        clear HF
        have HF : Blk w9 (w.heap.size) #[.slice Aa0 na0 ca0, .slice Aa1 na1 ca1, .slice Aa2 na2 ca2, .slice Aa3 na3 ca3, .int .i64 t.head.num, .int .i64 t.head.base, .int .i64 t.head.tm, .slice Aa7 na7 ca7, .int .i64 t.next.num, .int .i64 t.next.base, .int .i64 t.next.tm, .slice Aa11 na11 ca11, .bool t.more, .int .i64 t.book.base, .int .i64 t.book.tm, .slice Aa15 na15 ca15, .slice Aa16 na16 ca16, .int .i64 t.dur, .slice Aa18 na18 ca18] 52 := S.at_ 1 rfl
        refine hK _ _ (fun _ => HF) ?_
        clear hK K
        try simp only [Act.put]
        rw [C7.out]
        refine wpAnyL_pure (i := 19) (v := ?_) rfl rfl (by kernel_rfl) (by kernel_rfl) (by kernel_rfl) (fun _ _ _ h => h) HF (Or.inl ⟨by kernel_rfl, ?_⟩) ?_
        rotate_left 1
        · (intro v _; go_simp; try with_reducible rfl)
        try simp only [Act.put]
        refine wpAnyL_pure (i := 20) (v := ?_) rfl rfl (by kernel_rfl) (by kernel_rfl) (by kernel_rfl) (fun _ _ _ h => h) HF (Or.inl ⟨by kernel_rfl, ?_⟩) ?_
        rotate_left 1
        · (intro v _; go_simp; try with_reducible rfl)
        try simp only [Act.put]
        refine wpAnyL_pure (i := 21) (v := ?_) rfl rfl (by kernel_rfl) (by kernel_rfl) (by kernel_rfl) (fun _ _ _ h => h) HF (Or.inl ⟨by kernel_rfl, ?_⟩) ?_
        rotate_left 1
        · (intro v _; go_simp; try with_reducible rfl)
        try simp only [Act.put]
        refine wpAnyL_takeT [24, 23] (i := 22) (v := .agg #[.slice Aa0 na0 ca0, .slice Aa1 na1 ca1, .slice Aa2 na2 ca2, .slice Aa3 na3 ca3, .int .i64 t.head.num, .int .i64 t.head.base, .int .i64 t.head.tm, .slice Aa7 na7 ca7, .int .i64 t.next.num, .int .i64 t.next.base, .int .i64 t.next.tm, .slice Aa11 na11 ca11, .bool t.more, .int .i64 t.book.base, .int .i64 t.book.tm, .slice Aa15 na15 ca15, .slice Aa16 na16 ca16, .int .i64 t.dur, .slice Aa18 na18 ca18]) rfl rfl (by kernel_rfl) (by kernel_rfl) (by kernel_rfl) (by kernel_rfl) (by kernel_rfl) (fun _ _ _ h => h) HF (yieldsIf_load_box (by kernel_rfl) 52 _ (by rfl) (w.heap.size) (by rfl) _ _ (fun _ h => h) _ Tryz.underlying52 (by rfl) (by kernel_rfl)) ?_
        try simp only [Act.put]
        refine wpAnyL_stepg (i := 23) (by kernel_rfl) rfl (by kernel_rfl) ?_
        intro K hK
        go_simp
        refine (sOwes_any _ _ _ _ _ _ _ _ _ _ _ _ _ _ _ _ _ _ _ t _ ((HH.out.keep c).up c.size) HZ.out HDU.out).mono ?_
        rintro e w10 ⟨rfl, b⟩
        replace c := c.trans (b.mono c.size)
        replace S := S.keep b
        clear b
        clear HF
        have HF : Blk w10 (w.heap.size) #[.slice Aa0 na0 ca0, .slice Aa1 na1 ca1, .slice Aa2 na2 ca2, .slice Aa3 na3 ca3, .int .i64 t.head.num, .int .i64 t.head.base, .int .i64 t.head.tm, .slice Aa7 na7 ca7, .int .i64 t.next.num, .int .i64 t.next.base, .int .i64 t.next.tm, .slice Aa11 na11 ca11, .bool t.more, .int .i64 t.book.base, .int .i64 t.book.tm, .slice Aa15 na15 ca15, .slice Aa16 na16 ca16, .int .i64 t.dur, .slice Aa18 na18 ca18] 52 := S.at_ 1 rfl
        refine hK _ _ (fun _ => HF) ?_
        clear hK K
        try simp only [Act.put]
        rw [C8.out]
        refine wpAnyL_pure (i := 24) (v := ?_) rfl rfl (by kernel_rfl) (by kernel_rfl) (by kernel_rfl) (fun _ _ _ h => h) HF (Or.inl ⟨by kernel_rfl, ?_⟩) ?_
        rotate_left 1
        · (intro v _; go_simp; try with_reducible rfl)
        try simp only [Act.put]
        refine wpAnyL_step (i := 25) (by kernel_rfl) rfl rfl ?_
        intro K hK
        go_simp
        refine hK _ _ (fun h => nomatch (show true = false from h)) ?_
        clear hK K
        try simp only [Act.put]
        refine wpAnyL_done (by kernel_rfl) ?_ _
        clear HF
        replace S := S.sub (.cons _ (.cons_cons _ (List.nil_sublist _)))
        have HLN := jd (logB_ofN C0.out C1.out C2.out Q3.out Q4.out C5.out C6.out (show logD t = true from C7.out) C8.out)
        have HNU := jd (show 0 ≤ t.head.num ∧ t.head.num ≤ 2000 by have := (headOkB_iff t.head).1 C1.out; omega)
        have ew : IntKind.i64.wrap (t.head.base + 1) = t.head.base + 1 := by have h8 := HB2.out.1; have h7 := Q3.out; rw [IntKind.wrap_i64]; omega
        clear c5
        cases hmore : t.more
        case false =>
         rw [hmore] at S
         have HV := jd (show sameHd t.next headZ = logB t by rw [HLN.out]; unfold logN; rw [hmore, if_neg (by decide)])
         have f17 := lk S 0 12 rfl rfl
         have f18 := lk S 0 8 rfl rfl
         have f19 := lk S 0 9 rfl rfl
         have f20 := lk S 0 10 rfl rfl
         have f21 := lk S 0 11 rfl rfl
         go_wp2_with fail
         refine (sSameHead_any t.next.num t.next.base t.next.tm 0 0 0 _ none _ _ 0 0 w.heap.size _ t.next.seen [] _ (hm2.keep c) (ow_nil_mrks _).rd c.size (Nat.le_refl _) (Nat.le_trans ys2 (by decide)) (by decide)).mono ?_
         rintro e w11 ⟨rfl, b⟩
         replace c := c.trans (b.mono c.size)
         replace S := S.keep b
         clear b f17 f18 f19 f20 f21
         have CC := jd c
         clear S c
         go_wp2
         go_ret
         exact ⟨ret_bool HV.out, CC.out⟩
        case true =>
         rw [hmore] at S
         cases hf : mayForget t t.next.base
         case false =>
          have HV := jd (show false = logB t by rw [HLN.out]; unfold logN; rw [hmore, if_pos rfl, hf, Bool.false_and])
          have HK := jd (show inB t.next.base (t.head.base + 1) t.dur = false from hf)
          clear hf
          have f17 := lk S 0 12 rfl rfl
          go_wp2_with fail
          refine wp_region_L (fun v => Blk v (w.heap.size) #[.slice Aa0 na0 ca0, .slice Aa1 na1 ca1, .slice Aa2 na2 ca2, .slice Aa3 na3 ca3, .int .i64 t.head.num, .int .i64 t.head.base, .int .i64 t.head.tm, .slice Aa7 na7 ca7, .int .i64 t.next.num, .int .i64 t.next.base, .int .i64 t.next.tm, .slice Aa11 na11 ca11, .bool true, .int .i64 t.book.base, .int .i64 t.book.tm, .slice Aa15 na15 ca15, .slice Aa16 na16 ca16, .int .i64 t.dur, .slice Aa18 na18 ca18] 52) 20 (by kernel_rfl) ?_
          clear f17
          replace S := S.keep ((Below.refl _ _).drew)
          replace c := c.drew
          generalize w10.drew = w11 at *
          have HF : Blk w11 (w.heap.size) #[.slice Aa0 na0 ca0, .slice Aa1 na1 ca1, .slice Aa2 na2 ca2, .slice Aa3 na3 ca3, .int .i64 t.head.num, .int .i64 t.head.base, .int .i64 t.head.tm, .slice Aa7 na7 ca7, .int .i64 t.next.num, .int .i64 t.next.base, .int .i64 t.next.tm, .slice Aa11 na11 ca11, .bool true, .int .i64 t.book.base, .int .i64 t.book.tm, .slice Aa15 na15 ca15, .slice Aa16 na16 ca16, .int .i64 t.dur, .slice Aa18 na18 ca18] 52 := S.at_ 0 rfl
          refine tk 0 (v := ?_) rfl rfl HF (.inl ⟨by rfl, ?_⟩) ?_
          rotate_left 1
          · (rintro v a0; clear a0; go_simp; try with_reducible rfl)
          try simp only [Act.put]
          refine tk 1 (v := ?_) rfl rfl HF (.inl ⟨by rfl, ?_⟩) ?_
          rotate_left 1
          · (rintro v a0; clear a0; go_simp; try with_reducible rfl)
          try simp only [Act.put]
          refine tk 2 (v := ?_) rfl rfl HF (.inl ⟨by rfl, ?_⟩) ?_
          rotate_left 1
          · (rintro v a0; have b0 : v.cell? ⟨w.heap.size, 9, none⟩ = some (.int .i64 t.next.base) := a0.cell 9; clear a0; go_simp; try with_reducible rfl)
          try simp only [Act.put]
          refine tk 3 (v := ?_) rfl rfl HF (.inl ⟨by rfl, ?_⟩) ?_
          rotate_left 1
          · (rintro v a0; clear a0; go_simp; try with_reducible rfl)
          try simp only [Act.put]
          refine tk 4 (v := ?_) rfl rfl HF (.inl ⟨by rfl, ?_⟩) ?_
          rotate_left 1
          · (rintro v a0; clear a0; go_simp; try with_reducible rfl)
          try simp only [Act.put]
          refine tk 5 (v := ?_) rfl rfl HF (.inl ⟨by rfl, ?_⟩) ?_
          rotate_left 1
          · (rintro v a0; have b0 : v.cell? ⟨w.heap.size, 5, none⟩ = some (.int .i64 t.head.base) := a0.cell 5; clear a0; go_simp; try with_reducible rfl)
          try simp only [Act.put]
          refine tk 6 (v := ?_) rfl rfl HF (.inl ⟨by rfl, ?_⟩) ?_
          rotate_left 1
          · (rintro v a0; clear a0; go_simp; try with_reducible rfl)
          try simp only [Act.put]
          refine tk 7 (v := ?_) rfl rfl HF (.inl ⟨by rfl, ?_⟩) ?_
          rotate_left 1
          · (rintro v a0; clear a0; go_simp; try with_reducible rfl)
          try simp only [Act.put]
          refine tk 8 (v := ?_) rfl rfl HF (.inl ⟨by rfl, ?_⟩) ?_
          rotate_left 1
          · (rintro v a0; have b0 : v.cell? ⟨w.heap.size, 17, none⟩ = some (.int .i64 t.dur) := a0.cell 17; clear a0; go_simp; try with_reducible rfl)
          try simp only [Act.put]
          refine wpAnyL_step (i := 9) (by kernel_rfl) rfl rfl ?_
          intro K hK
          go_simp
          refine (in_at t.next.base (t.head.base + 1) t.dur _).mono ?_
          rintro e w12 ⟨rfl, b⟩
          replace c := c.trans (b.mono c.size)
          replace S := S.keep b
          clear b
          clear HF
          have HF : Blk w12 (w.heap.size) #[.slice Aa0 na0 ca0, .slice Aa1 na1 ca1, .slice Aa2 na2 ca2, .slice Aa3 na3 ca3, .int .i64 t.head.num, .int .i64 t.head.base, .int .i64 t.head.tm, .slice Aa7 na7 ca7, .int .i64 t.next.num, .int .i64 t.next.base, .int .i64 t.next.tm, .slice Aa11 na11 ca11, .bool true, .int .i64 t.book.base, .int .i64 t.book.tm, .slice Aa15 na15 ca15, .slice Aa16 na16 ca16, .int .i64 t.dur, .slice Aa18 na18 ca18] 52 := S.at_ 0 rfl
          refine hK _ _ (fun _ => HF) ?_
          clear hK K
          try simp only [Act.put]
          rw [HK.out]
          refine wpAnyL_pure (i := 10) (v := ?_) rfl rfl (by kernel_rfl) (by kernel_rfl) (by kernel_rfl) (fun _ _ _ h => h) HF (Or.inl ⟨by kernel_rfl, ?_⟩) ?_
          rotate_left 1
          · (intro v _; go_simp; try with_reducible rfl)
          try simp only [Act.put]
          refine wpAnyL_pure (i := 11) (v := undef) rfl rfl (by kernel_rfl) (by kernel_rfl) (by kernel_rfl) (fun _ _ _ h => h) HF (Or.inr ⟨by kernel_rfl, rfl⟩) ?_
          try simp only [Act.put]
          refine wpAnyL_pure (i := 12) (v := undef) rfl rfl (by kernel_rfl) (by kernel_rfl) (by kernel_rfl) (fun _ _ _ h => h) HF (Or.inr ⟨by kernel_rfl, rfl⟩) ?_
          try simp only [Act.put]
          refine wpAnyL_pure (i := 13) (v := undef) rfl rfl (by kernel_rfl) (by kernel_rfl) (by kernel_rfl) (fun _ _ _ h => h) HF (Or.inr ⟨by kernel_rfl, rfl⟩) ?_
          try simp only [Act.put]
          refine wpAnyL_pure (i := 14) (v := undef) rfl rfl (by kernel_rfl) (by kernel_rfl) (by kernel_rfl) (fun _ _ _ h => h) HF (Or.inr ⟨by kernel_rfl, rfl⟩) ?_
          try simp only [Act.put]
          refine wpAnyL_pure (i := 15) (v := undef) rfl rfl (by kernel_rfl) (by kernel_rfl) (by kernel_rfl) (fun _ _ _ h => h) HF (Or.inr ⟨by kernel_rfl, rfl⟩) ?_
          try simp only [Act.put]
          refine wpAnyL_pure (i := 16) (v := undef) rfl rfl (by kernel_rfl) (by kernel_rfl) (by kernel_rfl) (fun _ _ _ h => h) HF (Or.inr ⟨by kernel_rfl, rfl⟩) ?_
          try simp only [Act.put]
          refine wpAnyL_pure (i := 17) (v := undef) rfl rfl (by kernel_rfl) (by kernel_rfl) (by kernel_rfl) (fun _ _ _ h => h) HF (Or.inr ⟨by kernel_rfl, rfl⟩) ?_
          try simp only [Act.put]
          refine wpAnyL_pure (i := 18) (v := undef) rfl rfl (by kernel_rfl) (by kernel_rfl) (by kernel_rfl) (fun _ _ _ h => h) HF (Or.inr ⟨by kernel_rfl, rfl⟩) ?_
          try simp only [Act.put]
          refine wpAnyL_pure (i := 19) (v := ?_) rfl rfl (by kernel_rfl) (by kernel_rfl) (by kernel_rfl) (fun _ _ _ h => h) HF (Or.inl ⟨by kernel_rfl, ?_⟩) ?_
          rotate_left 1
          · (intro v _; go_simp; try with_reducible rfl)
          try simp only [Act.put]
          refine wpAnyL_step (i := 20) (by kernel_rfl) rfl rfl ?_
          intro K hK
          go_simp
          refine hK _ _ (fun h => nomatch (show true = false from h)) ?_
          clear hK K
          try simp only [Act.put]
          refine wpAnyL_done (by kernel_rfl) ?_ _
          clear HF
          have CC := jd c
          clear S c
          go_wp2
          go_ret
          exact ⟨ret_bool HV.out, CC.out⟩
         case true =>
          have HFI := jd (forget_in Q3.out (show logD t = true from C7.out) hf)
          have HV := jd (show sameHd t.next (headAt t t.next.base) = logB t by rw [HLN.out]; unfold logN; rw [hmore, if_pos rfl, hf, Bool.true_and])
          have HK := jd (show inB t.next.base (t.head.base + 1) t.dur = true from hf)
          clear hf
          have hmz : mrkSz (headAt t t.next.base).seen ≤ 1048577 := seenOverM_sz _ _ ys1 (by have := sel_len t.book.ents (t.book.base + 1) t.next.base; have h9 : entSz t.book.ents = t.book.ents.length := rfl; have h8 : entSz (selE t.book.ents (t.book.base + 1) t.next.base) = (selE t.book.ents (t.book.base + 1) t.next.base).length := rfl; omega)
          have f17 := lk S 0 12 rfl rfl
          go_wp2_with fail
          refine wp_region_L (fun v => Blk v (w.heap.size) #[.slice Aa0 na0 ca0, .slice Aa1 na1 ca1, .slice Aa2 na2 ca2, .slice Aa3 na3 ca3, .int .i64 t.head.num, .int .i64 t.head.base, .int .i64 t.head.tm, .slice Aa7 na7 ca7, .int .i64 t.next.num, .int .i64 t.next.base, .int .i64 t.next.tm, .slice Aa11 na11 ca11, .bool true, .int .i64 t.book.base, .int .i64 t.book.tm, .slice Aa15 na15 ca15, .slice Aa16 na16 ca16, .int .i64 t.dur, .slice Aa18 na18 ca18] 52) 20 (by kernel_rfl) ?_
          clear f17
          replace S := S.keep ((Below.refl _ _).drew)
          replace c := c.drew
          generalize w10.drew = w11 at *
          have HF : Blk w11 (w.heap.size) #[.slice Aa0 na0 ca0, .slice Aa1 na1 ca1, .slice Aa2 na2 ca2, .slice Aa3 na3 ca3, .int .i64 t.head.num, .int .i64 t.head.base, .int .i64 t.head.tm, .slice Aa7 na7 ca7, .int .i64 t.next.num, .int .i64 t.next.base, .int .i64 t.next.tm, .slice Aa11 na11 ca11, .bool true, .int .i64 t.book.base, .int .i64 t.book.tm, .slice Aa15 na15 ca15, .slice Aa16 na16 ca16, .int .i64 t.dur, .slice Aa18 na18 ca18] 52 := S.at_ 0 rfl
          refine tk 0 (v := ?_) rfl rfl HF (.inl ⟨by rfl, ?_⟩) ?_
          rotate_left 1
          · (rintro v a0; clear a0; go_simp; try with_reducible rfl)
          try simp only [Act.put]
          refine tk 1 (v := ?_) rfl rfl HF (.inl ⟨by rfl, ?_⟩) ?_
          rotate_left 1
          · (rintro v a0; clear a0; go_simp; try with_reducible rfl)
          try simp only [Act.put]
          refine tk 2 (v := ?_) rfl rfl HF (.inl ⟨by rfl, ?_⟩) ?_
          rotate_left 1
          · (rintro v a0; have b0 : v.cell? ⟨w.heap.size, 9, none⟩ = some (.int .i64 t.next.base) := a0.cell 9; clear a0; go_simp; try with_reducible rfl)
          try simp only [Act.put]
          refine tk 3 (v := ?_) rfl rfl HF (.inl ⟨by rfl, ?_⟩) ?_
          rotate_left 1
          · (rintro v a0; clear a0; go_simp; try with_reducible rfl)
          try simp only [Act.put]
          refine tk 4 (v := ?_) rfl rfl HF (.inl ⟨by rfl, ?_⟩) ?_
          rotate_left 1
          · (rintro v a0; clear a0; go_simp; try with_reducible rfl)
          try simp only [Act.put]
          refine tk 5 (v := ?_) rfl rfl HF (.inl ⟨by rfl, ?_⟩) ?_
          rotate_left 1
          · (rintro v a0; have b0 : v.cell? ⟨w.heap.size, 5, none⟩ = some (.int .i64 t.head.base) := a0.cell 5; clear a0; go_simp; try with_reducible rfl)
          try simp only [Act.put]
          refine tk 6 (v := ?_) rfl rfl HF (.inl ⟨by rfl, ?_⟩) ?_
          rotate_left 1
          · (rintro v a0; clear a0; go_simp; try with_reducible rfl)
          try simp only [Act.put]
          refine tk 7 (v := ?_) rfl rfl HF (.inl ⟨by rfl, ?_⟩) ?_
          rotate_left 1
          · (rintro v a0; clear a0; go_simp; try with_reducible rfl)
          try simp only [Act.put]
          refine tk 8 (v := ?_) rfl rfl HF (.inl ⟨by rfl, ?_⟩) ?_
          rotate_left 1
          · (rintro v a0; have b0 : v.cell? ⟨w.heap.size, 17, none⟩ = some (.int .i64 t.dur) := a0.cell 17; clear a0; go_simp; try with_reducible rfl)
          try simp only [Act.put]
          refine wpAnyL_step (i := 9) (by kernel_rfl) rfl rfl ?_
          intro K hK
          go_simp
          refine (in_at t.next.base (t.head.base + 1) t.dur _).mono ?_
          rintro e w12 ⟨rfl, b⟩
          replace c := c.trans (b.mono c.size)
          replace S := S.keep b
          clear b
          clear HF
          have HF : Blk w12 (w.heap.size) #[.slice Aa0 na0 ca0, .slice Aa1 na1 ca1, .slice Aa2 na2 ca2, .slice Aa3 na3 ca3, .int .i64 t.head.num, .int .i64 t.head.base, .int .i64 t.head.tm, .slice Aa7 na7 ca7, .int .i64 t.next.num, .int .i64 t.next.base, .int .i64 t.next.tm, .slice Aa11 na11 ca11, .bool true, .int .i64 t.book.base, .int .i64 t.book.tm, .slice Aa15 na15 ca15, .slice Aa16 na16 ca16, .int .i64 t.dur, .slice Aa18 na18 ca18] 52 := S.at_ 0 rfl
          refine hK _ _ (fun _ => HF) ?_
          clear hK K
          try simp only [Act.put]
          rw [HK.out]
          refine wpAnyL_pure (i := 10) (v := ?_) rfl rfl (by kernel_rfl) (by kernel_rfl) (by kernel_rfl) (fun _ _ _ h => h) HF (Or.inl ⟨by kernel_rfl, ?_⟩) ?_
          rotate_left 1
          · (intro v _; go_simp; try with_reducible rfl)
          try simp only [Act.put]
          refine wpAnyL_take (i := 11) (v := ?_) rfl rfl (by kernel_rfl) (by kernel_rfl) (by kernel_rfl) (by kernel_rfl) (by kernel_rfl) (fun _ _ _ h => h) HF (Or.inl ⟨by kernel_rfl, ?_⟩) ?_
          rotate_left 1
          · (rintro v a0; clear a0; go_simp; try with_reducible rfl)
          try simp only [Act.put]
          refine wpAnyL_take (i := 12) (v := ?_) rfl rfl (by kernel_rfl) (by kernel_rfl) (by kernel_rfl) (by kernel_rfl) (by kernel_rfl) (fun _ _ _ h => h) HF (Or.inl ⟨by kernel_rfl, ?_⟩) ?_
          rotate_left 1
          · (rintro v a0; have b0 : v.cell? ⟨w.heap.size, 8, none⟩ = some (.int .i64 t.next.num) := a0.cell 8; have b1 : v.cell? ⟨w.heap.size, 9, none⟩ = some (.int .i64 t.next.base) := a0.cell 9; have b2 : v.cell? ⟨w.heap.size, 10, none⟩ = some (.int .i64 t.next.tm) := a0.cell 10; have b3 : v.cell? ⟨w.heap.size, 11, none⟩ = some (.slice Aa11 na11 ca11) := a0.cell 11; clear a0; go_simp; try with_reducible rfl)
          try simp only [Act.put]
          refine wpAnyL_take (i := 13) (v := .agg #[.slice Aa0 na0 ca0, .slice Aa1 na1 ca1, .slice Aa2 na2 ca2, .slice Aa3 na3 ca3, .int .i64 t.head.num, .int .i64 t.head.base, .int .i64 t.head.tm, .slice Aa7 na7 ca7, .int .i64 t.next.num, .int .i64 t.next.base, .int .i64 t.next.tm, .slice Aa11 na11 ca11, .bool true, .int .i64 t.book.base, .int .i64 t.book.tm, .slice Aa15 na15 ca15, .slice Aa16 na16 ca16, .int .i64 t.dur, .slice Aa18 na18 ca18]) rfl rfl (by kernel_rfl) (by kernel_rfl) (by kernel_rfl) (by kernel_rfl) (by kernel_rfl) (fun _ _ _ h => h) HF (yieldsIf_load_box (by kernel_rfl) 52 _ (by rfl) (w.heap.size) (by rfl) _ _ (fun _ h => h) _ Tryz.underlying52 (by rfl) (by kernel_rfl)) ?_
          try simp only [Act.put]
          refine wpAnyL_take (i := 14) (v := ?_) rfl rfl (by kernel_rfl) (by kernel_rfl) (by kernel_rfl) (by kernel_rfl) (by kernel_rfl) (fun _ _ _ h => h) HF (Or.inl ⟨by kernel_rfl, ?_⟩) ?_
          rotate_left 1
          · (rintro v a0; clear a0; go_simp; try with_reducible rfl)
          try simp only [Act.put]
          refine wpAnyL_take (i := 15) (v := ?_) rfl rfl (by kernel_rfl) (by kernel_rfl) (by kernel_rfl) (by kernel_rfl) (by kernel_rfl) (fun _ _ _ h => h) HF (Or.inl ⟨by kernel_rfl, ?_⟩) ?_
          rotate_left 1
          · (rintro v a0; clear a0; go_simp; try with_reducible rfl)
          try simp only [Act.put]
          refine wpAnyL_take (i := 16) (v := ?_) rfl rfl (by kernel_rfl) (by kernel_rfl) (by kernel_rfl) (by kernel_rfl) (by kernel_rfl) (fun _ _ _ h => h) HF (Or.inl ⟨by kernel_rfl, ?_⟩) ?_
          rotate_left 1
          · (rintro v a0; have b0 : v.cell? ⟨w.heap.size, 9, none⟩ = some (.int .i64 t.next.base) := a0.cell 9; clear a0; go_simp; try with_reducible rfl)
          try simp only [Act.put]
          refine wpAnyL_stepg (i := 17) (by kernel_rfl) rfl (by kernel_rfl) ?_
          intro K hK
          go_simp
          refine (sNext_any _ _ _ _ _ _ _ _ _ _ _ _ _ _ _ _ _ _ _ t _ (by have HH9 := HH.out; rw [hmore] at HH9; exact (HH9.keep c).up c.size) HZ.out t.next.base C2.out HFI.out.1 HFI.out.2 HNU.out).mono ?_
          rintro e w13 ⟨A3, n3, c3, rfl, o, b⟩
          obtain ⟨fp_nh, S'⟩ := S.has b o c.size
          replace c := c.trans (b.mono c.size)
          clear S; have S := S'; clear S' o b
          clear HF
          have HF : Blk w13 (w.heap.size) #[.slice Aa0 na0 ca0, .slice Aa1 na1 ca1, .slice Aa2 na2 ca2, .slice Aa3 na3 ca3, .int .i64 t.head.num, .int .i64 t.head.base, .int .i64 t.head.tm, .slice Aa7 na7 ca7, .int .i64 t.next.num, .int .i64 t.next.base, .int .i64 t.next.tm, .slice Aa11 na11 ca11, .bool true, .int .i64 t.book.base, .int .i64 t.book.tm, .slice Aa15 na15 ca15, .slice Aa16 na16 ca16, .int .i64 t.dur, .slice Aa18 na18 ca18] 52 := S.at_ 1 rfl
          refine hK _ _ (fun _ => HF) ?_
          clear hK K
          try simp only [Act.put]
          refine wpAnyL_stepg (i := 18) (by kernel_rfl) rfl (by kernel_rfl) ?_
          intro K hK
          go_simp
          refine (sSameHead_any t.next.num t.next.base t.next.tm _ _ _ _ A3 _ _ n3 c3 w.heap.size _ t.next.seen (headAt t t.next.base).seen _ (hm2.keep c) (S.own_ 0 rfl).rd c.size (Nat.le_refl _) (Nat.le_trans ys2 (by decide)) hmz).mono ?_
          rintro e w14 ⟨rfl, b⟩
          replace c := c.trans (b.mono c.size)
          replace S := S.keep b
          clear b
          clear HF
          have HF : Blk w14 (w.heap.size) #[.slice Aa0 na0 ca0, .slice Aa1 na1 ca1, .slice Aa2 na2 ca2, .slice Aa3 na3 ca3, .int .i64 t.head.num, .int .i64 t.head.base, .int .i64 t.head.tm, .slice Aa7 na7 ca7, .int .i64 t.next.num, .int .i64 t.next.base, .int .i64 t.next.tm, .slice Aa11 na11 ca11, .bool true, .int .i64 t.book.base, .int .i64 t.book.tm, .slice Aa15 na15 ca15, .slice Aa16 na16 ca16, .int .i64 t.dur, .slice Aa18 na18 ca18] 52 := S.at_ 1 rfl
          refine hK _ _ (fun _ => HF) ?_
          clear hK K
          try simp only [Act.put]
          refine wpAnyL_pure (i := 19) (v := ?_) rfl rfl (by kernel_rfl) (by kernel_rfl) (by kernel_rfl) (fun _ _ _ h => h) HF (Or.inl ⟨by kernel_rfl, ?_⟩) ?_
          rotate_left 1
          · (intro v _; go_simp; try with_reducible rfl)
          try simp only [Act.put]
          refine wpAnyL_step (i := 20) (by kernel_rfl) rfl rfl ?_
          intro K hK
          go_simp
          refine hK _ _ (fun h => nomatch (show true = false from h)) ?_
          clear hK K
          try simp only [Act.put]
          refine wpAnyL_done (by kernel_rfl) ?_ _
          clear HF
          have CC := jd c
          clear S c
          go_wp2
          go_ret
          exact ⟨ret_bool HV.out, CC.out⟩
end Go.Proofs.YthjjdelpdiipdaaGreatDoor

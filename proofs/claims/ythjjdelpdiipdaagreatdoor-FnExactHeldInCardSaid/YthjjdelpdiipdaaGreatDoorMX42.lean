/- Parts of my texts: LogI3N. -/
import Derived.Test.YthjjdelpdiipdaaGreatDoorMX41
namespace Go.Proofs.YthjjdelpdiipdaaGreatDoor
set_option maxRecDepth 100000
set_option linter.unusedVariables false
open Go.RowKit
set_option maxHeartbeats 12800000 in
theorem iNextOk_any (v0 v1 v2 v3 v4 v5 v6 v7 v8 v9 v10 v11 v12 v13 v14 v15 v16 v17 v18 : Value) (t : LogM) (w : World) (h : Rd w w.heap.size t.cells [v0, v1, v2, v3, v4, v5, v6, v7, v8, v9, v10, v11, v12, v13, v14, v15, v16, v17, v18]) (hs : t.sz ≤ 1048576) (hb : bookB t.book = true) (hbb : t.book.base = t.head.base) (hd : logD t = true) (hnum : 0 ≤ t.head.num ∧ t.head.num ≤ 2000) :
    Calls Tryz.prog 85 #[.agg #[v0, v1, v2, v3, v4, v5, v6, v7, v8, v9, v10, v11, v12, v13, v14, v15, v16, v17, v18]] w fun e w' => e = .returned (.bool (logN t)) ∧ Below w.heap.size w w' := by
 have HH := jd h
 have HZ := jd hs
 obtain ⟨Aa0, na0, ca0, Aa1, na1, ca1, Aa2, na2, ca2, Aa3, na3, ca3, Aa7, na7, ca7, Aa11, na11, ca11, Aa15, na15, ca15, Aa16, na16, ca16, Aa18, na18, ca18, ea0, ea1, ea2, ea3, ea4, ea5, ea6, ea7, ea8, ea9, ea10, ea11, ea12, ea13, ea14, ea15, ea16, ea17, ea18, hr0, hr1, hr2, hr4, hr5, hr7⟩ := h.logT
 subst ea0 ea1 ea2 ea3 ea4 ea5 ea6 ea7 ea8 ea9 ea10 ea11 ea12 ea13 ea14 ea15 ea16 ea17 ea18
 have hz0 : t.two.sz ≤ 1048576 := by unfold LogM.sz at hs; omega
 have hz1 : t.head.sz ≤ 1048576 := by unfold LogM.sz at hs; omega
 have hz2 : t.next.sz ≤ 1048576 := by unfold LogM.sz at hs; omega
 have hz4 : t.book.sz ≤ 1048576 := by unfold LogM.sz at hs; omega
 have hz5 : mrkSz t.seen ≤ 1048576 := by unfold LogM.sz at hs; omega
 have hz7 : oweSz t.owe ≤ 1048576 := by unfold LogM.sz at hs; omega
 have hm1 := (hr1.headL).2.2.2
 have hm2 := (hr2.headL).2.2.2
 have he4 := hr4.bookE
 have ys1 : mrkSz t.head.seen ≤ 1048576 := hz1
 have ys2 : mrkSz t.next.seen ≤ 1048576 := hz2
 have ye4 : entSz t.book.ents ≤ 1048576 := hz4
 clear h hs
 have HBB := jd hbb
 clear hbb
 cases hmore : t.more
 case false =>
  have HV := jd (show sameHd t.next headZ = logN t by unfold logN; rw [hmore, if_neg (by decide)])
  have S := Sep.nil w w.heap.size
  have c := Below.refl w.heap.size w
  replace S := S.boxAt c.size (w.heap.size) rfl #[.slice Aa0 na0 ca0, .slice Aa1 na1 ca1, .slice Aa2 na2 ca2, .slice Aa3 na3 ca3, .int .i64 t.head.num, .int .i64 t.head.base, .int .i64 t.head.tm, .slice Aa7 na7 ca7, .int .i64 t.next.num, .int .i64 t.next.base, .int .i64 t.next.tm, .slice Aa11 na11 ca11, .bool false, .int .i64 t.book.base, .int .i64 t.book.tm, .slice Aa15 na15 ca15, .slice Aa16 na16 ca16, .int .i64 t.dur, .slice Aa18 na18 ca18] 52
  replace c := al c S
  go_enter Tryz.func85, Tryz.ntmps85
  have f0 := lk S 0 8 rfl rfl
  have f1 := lk S 0 9 rfl rfl
  have f2 := lk S 0 10 rfl rfl
  have f3 := lk S 0 11 rfl rfl
  have f4 := lk S 0 12 rfl rfl
  go_wp2_with fail
  generalize w.alloc (.cells #[.slice Aa0 na0 ca0, .slice Aa1 na1 ca1, .slice Aa2 na2 ca2, .slice Aa3 na3 ca3, .int .i64 t.head.num, .int .i64 t.head.base, .int .i64 t.head.tm, .slice Aa7 na7 ca7, .int .i64 t.next.num, .int .i64 t.next.base, .int .i64 t.next.tm, .slice Aa11 na11 ca11, .bool false, .int .i64 t.book.base, .int .i64 t.book.tm, .slice Aa15 na15 ca15, .slice Aa16 na16 ca16, .int .i64 t.dur, .slice Aa18 na18 ca18] 52) = w1 at *
  refine (iSameHead_any t.next.num t.next.base t.next.tm 0 0 0 _ none _ _ 0 0 w.heap.size _ t.next.seen [] _ (hm2.keep c) (ow_nil_mrks _).rd c.size (Nat.le_refl _) (Nat.le_trans ys2 (by decide)) (by decide)).mono ?_
  rintro e w2 ⟨rfl, b⟩
  replace c := c.trans (b.mono c.size)
  replace S := S.keep b
  clear b f0 f1 f2 f3 f4
  have CC := jd c
  clear S c
  go_wp2
  go_ret
  exact ⟨ret_bool HV.out, CC.out⟩
 case true =>
  cases hf : mayForget t t.next.base
  case false =>
   have HV := jd (show false = logN t by unfold logN; rw [hmore, if_pos rfl, hf, Bool.false_and])
   have HK := jd (show inB t.next.base (t.head.base + 1) t.dur = false from hf)
   clear hf
   have S := Sep.nil w w.heap.size
   have c := Below.refl w.heap.size w
   replace S := S.boxAt c.size (w.heap.size) rfl #[.slice Aa0 na0 ca0, .slice Aa1 na1 ca1, .slice Aa2 na2 ca2, .slice Aa3 na3 ca3, .int .i64 t.head.num, .int .i64 t.head.base, .int .i64 t.head.tm, .slice Aa7 na7 ca7, .int .i64 t.next.num, .int .i64 t.next.base, .int .i64 t.next.tm, .slice Aa11 na11 ca11, .bool true, .int .i64 t.book.base, .int .i64 t.book.tm, .slice Aa15 na15 ca15, .slice Aa16 na16 ca16, .int .i64 t.dur, .slice Aa18 na18 ca18] 52
   replace c := al c S
   go_enter Tryz.func85, Tryz.ntmps85
   have f0 := lk S 0 12 rfl rfl
   go_wp2_with fail
   generalize w.alloc (.cells #[.slice Aa0 na0 ca0, .slice Aa1 na1 ca1, .slice Aa2 na2 ca2, .slice Aa3 na3 ca3, .int .i64 t.head.num, .int .i64 t.head.base, .int .i64 t.head.tm, .slice Aa7 na7 ca7, .int .i64 t.next.num, .int .i64 t.next.base, .int .i64 t.next.tm, .slice Aa11 na11 ca11, .bool true, .int .i64 t.book.base, .int .i64 t.book.tm, .slice Aa15 na15 ca15, .slice Aa16 na16 ca16, .int .i64 t.dur, .slice Aa18 na18 ca18] 52) = w1 at *
   refine wp_region_L (fun v => Blk v (w.heap.size) #[.slice Aa0 na0 ca0, .slice Aa1 na1 ca1, .slice Aa2 na2 ca2, .slice Aa3 na3 ca3, .int .i64 t.head.num, .int .i64 t.head.base, .int .i64 t.head.tm, .slice Aa7 na7 ca7, .int .i64 t.next.num, .int .i64 t.next.base, .int .i64 t.next.tm, .slice Aa11 na11 ca11, .bool true, .int .i64 t.book.base, .int .i64 t.book.tm, .slice Aa15 na15 ca15, .slice Aa16 na16 ca16, .int .i64 t.dur, .slice Aa18 na18 ca18] 52) 15 (by kernel_rfl) ?_
   clear f0
   replace S := S.keep ((Below.refl _ _).drew)
   replace c := c.drew
   generalize w1.drew = w2 at *
   have HF : Blk w2 (w.heap.size) #[.slice Aa0 na0 ca0, .slice Aa1 na1 ca1, .slice Aa2 na2 ca2, .slice Aa3 na3 ca3, .int .i64 t.head.num, .int .i64 t.head.base, .int .i64 t.head.tm, .slice Aa7 na7 ca7, .int .i64 t.next.num, .int .i64 t.next.base, .int .i64 t.next.tm, .slice Aa11 na11 ca11, .bool true, .int .i64 t.book.base, .int .i64 t.book.tm, .slice Aa15 na15 ca15, .slice Aa16 na16 ca16, .int .i64 t.dur, .slice Aa18 na18 ca18] 52 := S.at_ 0 rfl
   refine wpAnyL_take (i := 0) (v := .agg #[.slice Aa0 na0 ca0, .slice Aa1 na1 ca1, .slice Aa2 na2 ca2, .slice Aa3 na3 ca3, .int .i64 t.head.num, .int .i64 t.head.base, .int .i64 t.head.tm, .slice Aa7 na7 ca7, .int .i64 t.next.num, .int .i64 t.next.base, .int .i64 t.next.tm, .slice Aa11 na11 ca11, .bool true, .int .i64 t.book.base, .int .i64 t.book.tm, .slice Aa15 na15 ca15, .slice Aa16 na16 ca16, .int .i64 t.dur, .slice Aa18 na18 ca18]) rfl rfl (by kernel_rfl) (by kernel_rfl) (by kernel_rfl) (by kernel_rfl) (by kernel_rfl) (fun _ _ _ h => h) HF (yieldsIf_load_box (by kernel_rfl) 52 _ (by rfl) (w.heap.size) (by rfl) _ _ (fun _ h => h) _ Tryz.underlying52 (by rfl) (by kernel_rfl)) ?_
   try simp only [Act.put]
   refine tk 1 (v := ?_) rfl rfl HF (.inl ⟨by rfl, ?_⟩) ?_
   rotate_left 1
   · (rintro v a0; clear a0; go_simp; try with_reducible rfl)
   try simp only [Act.put]
   refine tk 2 (v := ?_) rfl rfl HF (.inl ⟨by rfl, ?_⟩) ?_
   rotate_left 1
   · (rintro v a0; clear a0; go_simp; try with_reducible rfl)
   try simp only [Act.put]
   refine tk 3 (v := ?_) rfl rfl HF (.inl ⟨by rfl, ?_⟩) ?_
   rotate_left 1
   · (rintro v a0; have b0 : v.cell? ⟨w.heap.size, 9, none⟩ = some (.int .i64 t.next.base) := a0.cell 9; clear a0; go_simp; try with_reducible rfl)
   try simp only [Act.put]
   refine wpAnyL_step (i := 4) (by kernel_rfl) rfl rfl ?_
   intro K hK
   go_simp
   refine (iCanForget_any _ _ _ _ _ _ _ _ _ _ _ _ _ _ _ _ _ t.head.base t.dur t.next.base _).mono ?_
   rintro e w3 ⟨rfl, b⟩
   replace c := c.trans (b.mono c.size)
   replace S := S.keep b
   clear b
   clear HF
   have HF : Blk w3 (w.heap.size) #[.slice Aa0 na0 ca0, .slice Aa1 na1 ca1, .slice Aa2 na2 ca2, .slice Aa3 na3 ca3, .int .i64 t.head.num, .int .i64 t.head.base, .int .i64 t.head.tm, .slice Aa7 na7 ca7, .int .i64 t.next.num, .int .i64 t.next.base, .int .i64 t.next.tm, .slice Aa11 na11 ca11, .bool true, .int .i64 t.book.base, .int .i64 t.book.tm, .slice Aa15 na15 ca15, .slice Aa16 na16 ca16, .int .i64 t.dur, .slice Aa18 na18 ca18] 52 := S.at_ 0 rfl
   refine hK _ _ (fun _ => HF) ?_
   clear hK K
   try simp only [Act.put]
   rw [HK.out]
   refine wpAnyL_pure (i := 5) (v := ?_) rfl rfl (by kernel_rfl) (by kernel_rfl) (by kernel_rfl) (fun _ _ _ h => h) HF (Or.inl ⟨by rfl, ?_⟩) ?_
   rotate_left 1
   · (intro v _; go_simp; try with_reducible rfl)
   try simp only [Act.put]
   refine wpAnyL_take (i := 6) (v := undef) rfl rfl (by kernel_rfl) (by kernel_rfl) (by kernel_rfl) (by kernel_rfl) (by kernel_rfl) (fun _ _ _ h => h) HF (Or.inr ⟨by kernel_rfl, rfl⟩) ?_
   try simp only [Act.put]
   refine wpAnyL_take (i := 7) (v := undef) rfl rfl (by kernel_rfl) (by kernel_rfl) (by kernel_rfl) (by kernel_rfl) (by kernel_rfl) (fun _ _ _ h => h) HF (Or.inr ⟨by kernel_rfl, rfl⟩) ?_
   try simp only [Act.put]
   refine wpAnyL_take (i := 8) (v := undef) rfl rfl (by kernel_rfl) (by kernel_rfl) (by kernel_rfl) (by kernel_rfl) (by kernel_rfl) (fun _ _ _ h => h) HF (Or.inr ⟨by kernel_rfl, rfl⟩) ?_
   try simp only [Act.put]
   refine wpAnyL_take (i := 9) (v := undef) rfl rfl (by kernel_rfl) (by kernel_rfl) (by kernel_rfl) (by kernel_rfl) (by kernel_rfl) (fun _ _ _ h => h) HF (Or.inr ⟨by kernel_rfl, rfl⟩) ?_
   try simp only [Act.put]
   refine wpAnyL_take (i := 10) (v := undef) rfl rfl (by kernel_rfl) (by kernel_rfl) (by kernel_rfl) (by kernel_rfl) (by kernel_rfl) (fun _ _ _ h => h) HF (Or.inr ⟨by kernel_rfl, rfl⟩) ?_
   try simp only [Act.put]
   refine wpAnyL_take (i := 11) (v := undef) rfl rfl (by kernel_rfl) (by kernel_rfl) (by kernel_rfl) (by kernel_rfl) (by kernel_rfl) (fun _ _ _ h => h) HF (Or.inr ⟨by kernel_rfl, rfl⟩) ?_
   try simp only [Act.put]
   refine wpAnyL_take (i := 12) (v := undef) rfl rfl (by kernel_rfl) (by kernel_rfl) (by kernel_rfl) (by kernel_rfl) (by kernel_rfl) (fun _ _ _ h => h) HF (Or.inr ⟨by kernel_rfl, rfl⟩) ?_
   try simp only [Act.put]
   refine wpAnyL_take (i := 13) (v := undef) rfl rfl (by kernel_rfl) (by kernel_rfl) (by kernel_rfl) (by kernel_rfl) (by kernel_rfl) (fun _ _ _ h => h) HF (Or.inr ⟨by kernel_rfl, rfl⟩) ?_
   try simp only [Act.put]
   refine wpAnyL_pure (i := 14) (v := ?_) rfl rfl (by kernel_rfl) (by kernel_rfl) (by kernel_rfl) (fun _ _ _ h => h) HF (Or.inl ⟨by rfl, ?_⟩) ?_
   rotate_left 1
   · (intro v _; go_simp; try with_reducible rfl)
   try simp only [Act.put]
   refine wpAnyL_step (i := 15) (by kernel_rfl) rfl rfl ?_
   intro K hK
   go_simp
   refine hK _ _ (fun h => nomatch (show true = false from h)) ?_
   clear hK K
   try simp only [Act.put]
   refine wpAnyL_done (by kernel_rfl) ?_ _
   clear HF
   have CC := jd c
   clear S c
   go_wp2
   go_ret
   exact ⟨ret_bool HV.out, CC.out⟩
  case true =>
   have HFI := jd (forget_in HBB.out hd hf)
   have HV := jd (show sameHd t.next (headAt t t.next.base) = logN t by unfold logN; rw [hmore, if_pos rfl, hf, Bool.true_and])
   have HK := jd (show inB t.next.base (t.head.base + 1) t.dur = true from hf)
   have HNU := jd hnum
   have HBK := jd hb
   clear hf hnum hb
   have hmz : mrkSz (headAt t t.next.base).seen ≤ 1048577 := seenOverM_sz _ _ ys1 (by have := sel_len t.book.ents (t.book.base + 1) t.next.base; have h9 : entSz t.book.ents = t.book.ents.length := rfl; have h8 : entSz (selE t.book.ents (t.book.base + 1) t.next.base) = (selE t.book.ents (t.book.base + 1) t.next.base).length := rfl; omega)
   have S := Sep.nil w w.heap.size
   have c := Below.refl w.heap.size w
   replace S := S.boxAt c.size (w.heap.size) rfl #[.slice Aa0 na0 ca0, .slice Aa1 na1 ca1, .slice Aa2 na2 ca2, .slice Aa3 na3 ca3, .int .i64 t.head.num, .int .i64 t.head.base, .int .i64 t.head.tm, .slice Aa7 na7 ca7, .int .i64 t.next.num, .int .i64 t.next.base, .int .i64 t.next.tm, .slice Aa11 na11 ca11, .bool true, .int .i64 t.book.base, .int .i64 t.book.tm, .slice Aa15 na15 ca15, .slice Aa16 na16 ca16, .int .i64 t.dur, .slice Aa18 na18 ca18] 52
   replace c := al c S
   go_enter Tryz.func85, Tryz.ntmps85
   have f0 := lk S 0 12 rfl rfl
   go_wp2_with fail
   generalize w.alloc (.cells #[.slice Aa0 na0 ca0, .slice Aa1 na1 ca1, .slice Aa2 na2 ca2, .slice Aa3 na3 ca3, .int .i64 t.head.num, .int .i64 t.head.base, .int .i64 t.head.tm, .slice Aa7 na7 ca7, .int .i64 t.next.num, .int .i64 t.next.base, .int .i64 t.next.tm, .slice Aa11 na11 ca11, .bool true, .int .i64 t.book.base, .int .i64 t.book.tm, .slice Aa15 na15 ca15, .slice Aa16 na16 ca16, .int .i64 t.dur, .slice Aa18 na18 ca18] 52) = w1 at *
   refine wp_region_L (fun v => Blk v (w.heap.size) #[.slice Aa0 na0 ca0, .slice Aa1 na1 ca1, .slice Aa2 na2 ca2, .slice Aa3 na3 ca3, .int .i64 t.head.num, .int .i64 t.head.base, .int .i64 t.head.tm, .slice Aa7 na7 ca7, .int .i64 t.next.num, .int .i64 t.next.base, .int .i64 t.next.tm, .slice Aa11 na11 ca11, .bool true, .int .i64 t.book.base, .int .i64 t.book.tm, .slice Aa15 na15 ca15, .slice Aa16 na16 ca16, .int .i64 t.dur, .slice Aa18 na18 ca18] 52) 15 (by kernel_rfl) ?_
   clear f0
   replace S := S.keep ((Below.refl _ _).drew)
   replace c := c.drew
   generalize w1.drew = w2 at *
   have HF : Blk w2 (w.heap.size) #[.slice Aa0 na0 ca0, .slice Aa1 na1 ca1, .slice Aa2 na2 ca2, .slice Aa3 na3 ca3, .int .i64 t.head.num, .int .i64 t.head.base, .int .i64 t.head.tm, .slice Aa7 na7 ca7, .int .i64 t.next.num, .int .i64 t.next.base, .int .i64 t.next.tm, .slice Aa11 na11 ca11, .bool true, .int .i64 t.book.base, .int .i64 t.book.tm, .slice Aa15 na15 ca15, .slice Aa16 na16 ca16, .int .i64 t.dur, .slice Aa18 na18 ca18] 52 := S.at_ 0 rfl
   refine wpAnyL_take (i := 0) (v := .agg #[.slice Aa0 na0 ca0, .slice Aa1 na1 ca1, .slice Aa2 na2 ca2, .slice Aa3 na3 ca3, .int .i64 t.head.num, .int .i64 t.head.base, .int .i64 t.head.tm, .slice Aa7 na7 ca7, .int .i64 t.next.num, .int .i64 t.next.base, .int .i64 t.next.tm, .slice Aa11 na11 ca11, .bool true, .int .i64 t.book.base, .int .i64 t.book.tm, .slice Aa15 na15 ca15, .slice Aa16 na16 ca16, .int .i64 t.dur, .slice Aa18 na18 ca18]) rfl rfl (by kernel_rfl) (by kernel_rfl) (by kernel_rfl) (by kernel_rfl) (by kernel_rfl) (fun _ _ _ h => h) HF (yieldsIf_load_box (by kernel_rfl) 52 _ (by rfl) (w.heap.size) (by rfl) _ _ (fun _ h => h) _ Tryz.underlying52 (by rfl) (by kernel_rfl)) ?_
   try simp only [Act.put]
   refine tk 1 (v := ?_) rfl rfl HF (.inl ⟨by rfl, ?_⟩) ?_
   rotate_left 1
   · (rintro v a0; clear a0; go_simp; try with_reducible rfl)
   try simp only [Act.put]
   refine tk 2 (v := ?_) rfl rfl HF (.inl ⟨by rfl, ?_⟩) ?_
   rotate_left 1
   · (rintro v a0; clear a0; go_simp; try with_reducible rfl)
   try simp only [Act.put]
   refine tk 3 (v := ?_) rfl rfl HF (.inl ⟨by rfl, ?_⟩) ?_
   rotate_left 1
   · (rintro v a0; have b0 : v.cell? ⟨w.heap.size, 9, none⟩ = some (.int .i64 t.next.base) := a0.cell 9; clear a0; go_simp; try with_reducible rfl)
   try simp only [Act.put]
   refine wpAnyL_step (i := 4) (by kernel_rfl) rfl rfl ?_
   intro K hK
   go_simp
   refine (iCanForget_any _ _ _ _ _ _ _ _ _ _ _ _ _ _ _ _ _ t.head.base t.dur t.next.base _).mono ?_
   rintro e w3 ⟨rfl, b⟩
   replace c := c.trans (b.mono c.size)
   replace S := S.keep b
   clear b
   clear HF
   have HF : Blk w3 (w.heap.size) #[.slice Aa0 na0 ca0, .slice Aa1 na1 ca1, .slice Aa2 na2 ca2, .slice Aa3 na3 ca3, .int .i64 t.head.num, .int .i64 t.head.base, .int .i64 t.head.tm, .slice Aa7 na7 ca7, .int .i64 t.next.num, .int .i64 t.next.base, .int .i64 t.next.tm, .slice Aa11 na11 ca11, .bool true, .int .i64 t.book.base, .int .i64 t.book.tm, .slice Aa15 na15 ca15, .slice Aa16 na16 ca16, .int .i64 t.dur, .slice Aa18 na18 ca18] 52 := S.at_ 0 rfl
   refine hK _ _ (fun _ => HF) ?_
   clear hK K
   try simp only [Act.put]
   rw [HK.out]
   refine wpAnyL_pure (i := 5) (v := ?_) rfl rfl (by kernel_rfl) (by kernel_rfl) (by kernel_rfl) (fun _ _ _ h => h) HF (Or.inl ⟨by rfl, ?_⟩) ?_
   rotate_left 1
   · (intro v _; go_simp; try with_reducible rfl)
   try simp only [Act.put]
   refine wpAnyL_take (i := 6) (v := ?_) rfl rfl (by kernel_rfl) (by kernel_rfl) (by kernel_rfl) (by kernel_rfl) (by kernel_rfl) (fun _ _ _ h => h) HF (Or.inl ⟨by kernel_rfl, ?_⟩) ?_
   rotate_left 1
   · (rintro v a0; clear a0; go_simp; try with_reducible rfl)
   try simp only [Act.put]
   refine wpAnyL_take (i := 7) (v := ?_) rfl rfl (by kernel_rfl) (by kernel_rfl) (by kernel_rfl) (by kernel_rfl) (by kernel_rfl) (fun _ _ _ h => h) HF (Or.inl ⟨by kernel_rfl, ?_⟩) ?_
   rotate_left 1
   · (rintro v a0; have b0 : v.cell? ⟨w.heap.size, 8, none⟩ = some (.int .i64 t.next.num) := a0.cell 8; have b1 : v.cell? ⟨w.heap.size, 9, none⟩ = some (.int .i64 t.next.base) := a0.cell 9; have b2 : v.cell? ⟨w.heap.size, 10, none⟩ = some (.int .i64 t.next.tm) := a0.cell 10; have b3 : v.cell? ⟨w.heap.size, 11, none⟩ = some (.slice Aa11 na11 ca11) := a0.cell 11; clear a0; go_simp; try with_reducible rfl)
   try simp only [Act.put]
   refine wpAnyL_take (i := 8) (v := .agg #[.slice Aa0 na0 ca0, .slice Aa1 na1 ca1, .slice Aa2 na2 ca2, .slice Aa3 na3 ca3, .int .i64 t.head.num, .int .i64 t.head.base, .int .i64 t.head.tm, .slice Aa7 na7 ca7, .int .i64 t.next.num, .int .i64 t.next.base, .int .i64 t.next.tm, .slice Aa11 na11 ca11, .bool true, .int .i64 t.book.base, .int .i64 t.book.tm, .slice Aa15 na15 ca15, .slice Aa16 na16 ca16, .int .i64 t.dur, .slice Aa18 na18 ca18]) rfl rfl (by kernel_rfl) (by kernel_rfl) (by kernel_rfl) (by kernel_rfl) (by kernel_rfl) (fun _ _ _ h => h) HF (yieldsIf_load_box (by kernel_rfl) 52 _ (by rfl) (w.heap.size) (by rfl) _ _ (fun _ h => h) _ Tryz.underlying52 (by rfl) (by kernel_rfl)) ?_
   try simp only [Act.put]
   refine wpAnyL_take (i := 9) (v := ?_) rfl rfl (by kernel_rfl) (by kernel_rfl) (by kernel_rfl) (by kernel_rfl) (by kernel_rfl) (fun _ _ _ h => h) HF (Or.inl ⟨by kernel_rfl, ?_⟩) ?_
   rotate_left 1
   · (rintro v a0; clear a0; go_simp; try with_reducible rfl)
   try simp only [Act.put]
   refine wpAnyL_take (i := 10) (v := ?_) rfl rfl (by kernel_rfl) (by kernel_rfl) (by kernel_rfl) (by kernel_rfl) (by kernel_rfl) (fun _ _ _ h => h) HF (Or.inl ⟨by kernel_rfl, ?_⟩) ?_
   rotate_left 1
   · (rintro v a0; clear a0; go_simp; try with_reducible rfl)
   try simp only [Act.put]
   refine wpAnyL_take (i := 11) (v := ?_) rfl rfl (by kernel_rfl) (by kernel_rfl) (by kernel_rfl) (by kernel_rfl) (by kernel_rfl) (fun _ _ _ h => h) HF (Or.inl ⟨by kernel_rfl, ?_⟩) ?_
   rotate_left 1
   · (rintro v a0; have b0 : v.cell? ⟨w.heap.size, 9, none⟩ = some (.int .i64 t.next.base) := a0.cell 9; clear a0; go_simp; try with_reducible rfl)
   try simp only [Act.put]
   refine wpAnyL_stepg (i := 12) (by kernel_rfl) rfl (by kernel_rfl) ?_
   intro K hK
   go_simp
   refine (iHeadAfter_any _ _ _ _ _ _ _ _ _ _ _ _ _ _ _ _ _ _ _ t _ (by have HH9 := HH.out; rw [hmore] at HH9; exact (HH9.keep c).up c.size) HZ.out t.next.base HBK.out HFI.out.1 HFI.out.2 HNU.out).mono ?_
   rintro e w4 ⟨A3, n3, c3, rfl, o, b⟩
   obtain ⟨fp_nh, S'⟩ := S.has b o c.size
   replace c := c.trans (b.mono c.size)
   clear S; have S := S'; clear S' o b
   clear HF
   have HF : Blk w4 (w.heap.size) #[.slice Aa0 na0 ca0, .slice Aa1 na1 ca1, .slice Aa2 na2 ca2, .slice Aa3 na3 ca3, .int .i64 t.head.num, .int .i64 t.head.base, .int .i64 t.head.tm, .slice Aa7 na7 ca7, .int .i64 t.next.num, .int .i64 t.next.base, .int .i64 t.next.tm, .slice Aa11 na11 ca11, .bool true, .int .i64 t.book.base, .int .i64 t.book.tm, .slice Aa15 na15 ca15, .slice Aa16 na16 ca16, .int .i64 t.dur, .slice Aa18 na18 ca18] 52 := S.at_ 1 rfl
   refine hK _ _ (fun _ => HF) ?_
   clear hK K
   try simp only [Act.put]
   refine wpAnyL_stepg (i := 13) (by kernel_rfl) rfl (by kernel_rfl) ?_
   intro K hK
   go_simp
   refine (iSameHead_any t.next.num t.next.base t.next.tm _ _ _ _ A3 _ _ n3 c3 w.heap.size _ t.next.seen (headAt t t.next.base).seen _ (hm2.keep c) (S.own_ 0 rfl).rd c.size (Nat.le_refl _) (Nat.le_trans ys2 (by decide)) hmz).mono ?_
   rintro e w5 ⟨rfl, b⟩
   replace c := c.trans (b.mono c.size)
   replace S := S.keep b
   clear b
   clear HF
   have HF : Blk w5 (w.heap.size) #[.slice Aa0 na0 ca0, .slice Aa1 na1 ca1, .slice Aa2 na2 ca2, .slice Aa3 na3 ca3, .int .i64 t.head.num, .int .i64 t.head.base, .int .i64 t.head.tm, .slice Aa7 na7 ca7, .int .i64 t.next.num, .int .i64 t.next.base, .int .i64 t.next.tm, .slice Aa11 na11 ca11, .bool true, .int .i64 t.book.base, .int .i64 t.book.tm, .slice Aa15 na15 ca15, .slice Aa16 na16 ca16, .int .i64 t.dur, .slice Aa18 na18 ca18] 52 := S.at_ 1 rfl
   refine hK _ _ (fun _ => HF) ?_
   clear hK K
   try simp only [Act.put]
   refine wpAnyL_pure (i := 14) (v := ?_) rfl rfl (by kernel_rfl) (by kernel_rfl) (by kernel_rfl) (fun _ _ _ h => h) HF (Or.inl ⟨by rfl, ?_⟩) ?_
   rotate_left 1
   · (intro v _; go_simp; try with_reducible rfl)
   try simp only [Act.put]
   refine wpAnyL_step (i := 15) (by kernel_rfl) rfl rfl ?_
   intro K hK
   go_simp
   refine hK _ _ (fun h => nomatch (show true = false from h)) ?_
   clear hK K
   try simp only [Act.put]
   refine wpAnyL_done (by kernel_rfl) ?_ _
   clear HF
   have CC := jd c
   clear S c
   go_wp2
   go_ret
   exact ⟨ret_bool HV.out, CC.out⟩
end Go.Proofs.YthjjdelpdiipdaaGreatDoor

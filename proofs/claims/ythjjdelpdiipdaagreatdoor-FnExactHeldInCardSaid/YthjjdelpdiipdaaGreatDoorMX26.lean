/- Parts of my texts: LogS3. -/
import Derived.Test.YthjjdelpdiipdaaGreatDoorMX22
import Derived.Test.YthjjdelpdiipdaaGreatDoorMX25
namespace Go.Proofs.YthjjdelpdiipdaaGreatDoor
set_option maxRecDepth 100000
set_option linter.unusedVariables false
open Go.RowKit
set_option maxHeartbeats 12800000 in
theorem sNext_any (v0 v1 v2 v3 v4 v5 v6 v7 v8 v9 v10 v11 v12 v13 v14 v15 v16 v17 v18 : Value) (t : LogM) (w : World) (h : Rd w w.heap.size t.cells [v0, v1, v2, v3, v4, v5, v6, v7, v8, v9, v10, v11, v12, v13, v14, v15, v16, v17, v18]) (hs : t.sz ≤ 1048576) (i : Int) (hb : bookB t.book = true) (h1 : t.book.base < i) (h2 : i ≤ lastB t.book) (hnum : 0 ≤ t.head.num ∧ t.head.num ≤ 2000) :
    Calls Tryz.prog 37 #[.agg #[v0, v1, v2, v3, v4, v5, v6, v7, v8, v9, v10, v11, v12, v13, v14, v15, v16, v17, v18], .int .i64 i] w fun e w' => ∃ (A3 : Option Addr) (n3 c3 : Nat), e = .returned (.agg #[.int .i64 (headAt t i).num, .int .i64 (headAt t i).base, .int .i64 (headAt t i).tm, .slice A3 n3 c3]) ∧ Has w' w.heap.size [mrkD (headAt t i).seen] [.slice A3 n3 c3] ∧ Below w.heap.size w w' := by
 obtain ⟨Aa0, na0, ca0, Aa1, na1, ca1, Aa2, na2, ca2, Aa3, na3, ca3, Aa7, na7, ca7, Aa11, na11, ca11, Aa15, na15, ca15, Aa16, na16, ca16, Aa18, na18, ca18, ea0, ea1, ea2, ea3, ea4, ea5, ea6, ea7, ea8, ea9, ea10, ea11, ea12, ea13, ea14, ea15, ea16, ea17, ea18, hr0, hr1, hr2, hr4, hr5, hr7⟩ := h.logT
 subst ea0 ea1 ea2 ea3 ea4 ea5 ea6 ea7 ea8 ea9 ea10 ea11 ea12 ea13 ea14 ea15 ea16 ea17 ea18
 have hz0 : t.two.sz ≤ 1048576 := by unfold LogM.sz at hs; omega
 have hz1 : t.head.sz ≤ 1048576 := by unfold LogM.sz at hs; omega
 have hz2 : t.next.sz ≤ 1048576 := by unfold LogM.sz at hs; omega
 have hz4 : t.book.sz ≤ 1048576 := by unfold LogM.sz at hs; omega
 have hz5 : mrkSz t.seen ≤ 1048576 := by unfold LogM.sz at hs; omega
 have hz7 : oweSz t.owe ≤ 1048576 := by unfold LogM.sz at hs; omega
 have hm1 := (hr1.headL).2.2.2
 have hm2 := (hr2.headL).2.2.2
 have he4 := hr4.bookE
 have ys1 : mrkSz t.head.seen ≤ 1048576 := hz1
 have ys2 : mrkSz t.next.seen ≤ 1048576 := hz2
 have ye4 : entSz t.book.ents ≤ 1048576 := hz4
 clear h hs
 have hbk := (bookB_iff t.book).1 hb
 have HX := jd hbk.1
 have ew : IntKind.i64.wrap (t.head.num + 1) = t.head.num + 1 := by rw [IntKind.wrap_i64]; omega
 have ew2 : IntKind.i64.wrap (t.book.base + 1) = t.book.base + 1 := by have := hbk.1; rw [IntKind.wrap_i64]; omega
 have hse := sel_len t.book.ents (t.book.base + 1) i
 have HI := jd (show t.book.base ≤ i ∧ i ≤ t.book.base + (na15 : Int) by obtain ⟨_, _, _, e, hl, _⟩ := he4.ents; injection e with e1 e2 e3; unfold lastB at h2; omega)
 have ZS := jd (show entSz (selE t.book.ents (t.book.base + 1) i) ≤ 1048577 by have ye9 := ye4; unfold entSz at ye9 ⊢; omega)
 clear hbk h1 h2 hb hnum hse
 have S := Sep.nil w w.heap.size
 have c := Below.refl w.heap.size w
 replace S := S.boxAt c.size (w.heap.size) rfl #[.slice Aa0 na0 ca0, .slice Aa1 na1 ca1, .slice Aa2 na2 ca2, .slice Aa3 na3 ca3, .int .i64 t.head.num, .int .i64 t.head.base, .int .i64 t.head.tm, .slice Aa7 na7 ca7, .int .i64 t.next.num, .int .i64 t.next.base, .int .i64 t.next.tm, .slice Aa11 na11 ca11, .bool t.more, .int .i64 t.book.base, .int .i64 t.book.tm, .slice Aa15 na15 ca15, .slice Aa16 na16 ca16, .int .i64 t.dur, .slice Aa18 na18 ca18] 52
 replace c := al c S
 replace S := S.boxAt c.size (w.heap.size + 1) (by simp) #[.int .i64 0, .int .i64 0, .int .i64 0, .slice none 0 0] 46
 replace c := al c S
 go_enter Tryz.func37, Tryz.ntmps37
 go_wp2_with fail
 generalize (w.alloc (.cells #[.slice Aa0 na0 ca0, .slice Aa1 na1 ca1, .slice Aa2 na2 ca2, .slice Aa3 na3 ca3, .int .i64 t.head.num, .int .i64 t.head.base, .int .i64 t.head.tm, .slice Aa7 na7 ca7, .int .i64 t.next.num, .int .i64 t.next.base, .int .i64 t.next.tm, .slice Aa11 na11 ca11, .bool t.more, .int .i64 t.book.base, .int .i64 t.book.tm, .slice Aa15 na15 ca15, .slice Aa16 na16 ca16, .int .i64 t.dur, .slice Aa18 na18 ca18] 52)).alloc (.cells #[.int .i64 0, .int .i64 0, .int .i64 0, .slice none 0 0] 46) = w1 at *
 refine wp_region_L (fun v => v.cell? ⟨w.heap.size, 4, none⟩ = some (.int .i64 t.head.num) ∧ v.cell? ⟨w.heap.size, 13, none⟩ = some (.int .i64 t.book.base) ∧ v.cell? ⟨w.heap.size, 14, none⟩ = some (.int .i64 t.book.tm) ∧ v.cell? ⟨w.heap.size, 15, none⟩ = some (.slice Aa15 na15 ca15)) 11 (by kernel_rfl) ?_
 replace S := S.keep ((Below.refl _ _).drew)
 replace c := c.drew
 generalize w1.drew = w2 at *
 have HF : w2.cell? ⟨w.heap.size, 4, none⟩ = some (.int .i64 t.head.num) ∧ w2.cell? ⟨w.heap.size, 13, none⟩ = some (.int .i64 t.book.base) ∧ w2.cell? ⟨w.heap.size, 14, none⟩ = some (.int .i64 t.book.tm) ∧ w2.cell? ⟨w.heap.size, 15, none⟩ = some (.slice Aa15 na15 ca15) := ⟨(S.at_ 1 rfl).cell 4, (S.at_ 1 rfl).cell 13, (S.at_ 1 rfl).cell 14, (S.at_ 1 rfl).cell 15⟩
 refine tk 0 (v := ?_) rfl rfl HF (.inl ⟨by rfl, ?_⟩) ?_
 rotate_left 1
 · (rintro v ⟨a0, a1, a2, a3⟩; go_simp; try with_reducible rfl)
 try simp only [Act.put]
 refine tk 1 (v := ?_) rfl rfl HF (.inl ⟨by rfl, ?_⟩) ?_
 rotate_left 1
 · (rintro v ⟨a0, a1, a2, a3⟩; go_simp; try with_reducible rfl)
 try simp only [Act.put]
 refine tk 2 (v := ?_) rfl rfl HF (.inl ⟨by rfl, ?_⟩) ?_
 rotate_left 1
 · (rintro v ⟨a0, a1, a2, a3⟩; go_simp; try with_reducible rfl)
 try simp only [Act.put]
 refine tk 3 (v := ?_) rfl rfl HF (.inl ⟨by rfl, ?_⟩) ?_
 rotate_left 1
 · (rintro v ⟨a0, a1, a2, a3⟩; go_simp; try with_reducible rfl)
 try simp only [Act.put]
 refine tk 4 (v := ?_) rfl rfl HF (.inl ⟨by rfl, ?_⟩) ?_
 rotate_left 1
 · (rintro v ⟨a0, a1, a2, a3⟩; go_simp; try with_reducible rfl)
 try simp only [Act.put]
 refine tk 5 (v := ?_) rfl rfl HF (.inl ⟨by rfl, ?_⟩) ?_
 rotate_left 1
 · (rintro v ⟨a0, a1, a2, a3⟩; go_simp; try with_reducible rfl)
 try simp only [Act.put]
 refine tk 6 (v := ?_) rfl rfl HF (.inl ⟨by rfl, ?_⟩) ?_
 rotate_left 1
 · (rintro v ⟨a0, a1, a2, a3⟩; go_simp; try with_reducible rfl)
 try simp only [Act.put]
 refine tk 7 (v := ?_) rfl rfl HF (.inl ⟨by rfl, ?_⟩) ?_
 rotate_left 1
 · (rintro v ⟨a0, a1, a2, a3⟩; go_simp; try with_reducible rfl)
 try simp only [Act.put]
 refine wpAnyL_two (i := 8) (k := 10) (by kernel_rfl) rfl rfl rfl rfl ?_ ?_
 · intro K hK
   go_simp
   refine (sTimeAt_any t.book.base t.book.tm _ _ _ w.heap.size t.book.ents i _ (he4.keep c) c.size (Nat.le_trans ye4 (by decide)) (by have := HX.out; omega) HI.out).mono ?_
   rintro e w3 ⟨rfl, b⟩
   replace c := c.trans (b.mono c.size)
   replace S := S.keep b
   clear b
   clear HF
   have HF : w3.cell? ⟨w.heap.size, 4, none⟩ = some (.int .i64 t.head.num) ∧ w3.cell? ⟨w.heap.size, 13, none⟩ = some (.int .i64 t.book.base) ∧ w3.cell? ⟨w.heap.size, 14, none⟩ = some (.int .i64 t.book.tm) ∧ w3.cell? ⟨w.heap.size, 15, none⟩ = some (.slice Aa15 na15 ca15) := ⟨(S.at_ 1 rfl).cell 4, (S.at_ 1 rfl).cell 13, (S.at_ 1 rfl).cell 14, (S.at_ 1 rfl).cell 15⟩
   refine hK _ _ (fun _ => HF) ?_
   clear hK K
   try simp only [Act.put]
   refine wpAnyL_pure (i := 9) (v := ?_) rfl rfl (by kernel_rfl) (by kernel_rfl) (by kernel_rfl) (fun _ _ _ h => h) HF (Or.inl ⟨by rfl, ?_⟩) ?_
   rotate_left 1
   · (intro v _; go_simp; try with_reducible rfl)
   try simp only [Act.put]
   refine wpAnyL_step (i := 10) (by kernel_rfl) rfl rfl ?_
   intro K hK
   go_simp
   replace S := S.boxAt c.size (w3.heap.size) rfl #[.int .i64 0, .int .i64 0, .int .i64 0, .slice none 0 0] 46
   replace c := al c S
   clear HF
   have HF : (w3.alloc (.cells #[.int .i64 0, .int .i64 0, .int .i64 0, .slice none 0 0] 46)).cell? ⟨w.heap.size, 4, none⟩ = some (.int .i64 t.head.num) ∧ (w3.alloc (.cells #[.int .i64 0, .int .i64 0, .int .i64 0, .slice none 0 0] 46)).cell? ⟨w.heap.size, 13, none⟩ = some (.int .i64 t.book.base) ∧ (w3.alloc (.cells #[.int .i64 0, .int .i64 0, .int .i64 0, .slice none 0 0] 46)).cell? ⟨w.heap.size, 14, none⟩ = some (.int .i64 t.book.tm) ∧ (w3.alloc (.cells #[.int .i64 0, .int .i64 0, .int .i64 0, .slice none 0 0] 46)).cell? ⟨w.heap.size, 15, none⟩ = some (.slice Aa15 na15 ca15) := ⟨(S.at_ 2 rfl).cell 4, (S.at_ 2 rfl).cell 13, (S.at_ 2 rfl).cell 14, (S.at_ 2 rfl).cell 15⟩
   refine hK _ _ (fun _ => HF) ?_
   clear hK K
   try simp only [Act.put]
   generalize hw : w3.alloc (.cells #[.int .i64 0, .int .i64 0, .int .i64 0, .slice none 0 0] 46) = w4 at *
   clear hw
   obtain ⟨qb, hqb⟩ : ∃ q, q = w3.heap.size := ⟨_, rfl⟩
   rw [← hqb] at S ⊢
   clear hqb
   have f0 := lk S 0 0 rfl rfl
   have f1 := (S.at_ 0 rfl).free 0
   have f2 := lk S 0 1 rfl rfl
   have f3 := (S.at_ 0 rfl).free 1
   have f4 := lk S 0 2 rfl rfl
   have f5 := (S.at_ 0 rfl).free 2
   have f6 := lk S 0 3 rfl rfl
   have f7 := (S.at_ 0 rfl).free 3
   refine wpAnyL_step (i := 11) (by kernel_rfl) rfl rfl ?_
   intro K hK
   go_simp
   refine hK _ _ (fun h => nomatch (show true = false from h)) ?_
   clear hK K
   try simp only [Act.put]
   refine wpAnyL_done (by kernel_rfl) ?_ _
   replace S := S.put 0 rfl 0 (.int .i64 (t.head.num + 1))
   replace c := st c S (S.base_le 0 rfl)
   replace S := S.put 0 rfl 1 (.int .i64 i)
   replace c := st c S (S.base_le 0 rfl)
   replace S := S.put 0 rfl 2 (.int .i64 (timeAt t.book i))
   replace c := st c S (S.base_le 0 rfl)
   replace S := S.put 0 rfl 3 (.slice none 0 0)
   replace c := st c S (S.base_le 0 rfl)
   clear HF
   generalize (((w4.setCell ⟨qb, 0, none⟩ (.int .i64 (t.head.num + 1))).setCell ⟨qb, 1, none⟩ (.int .i64 i)).setCell ⟨qb, 2, none⟩ (.int .i64 (timeAt t.book i))).setCell ⟨qb, 3, none⟩ (.slice none 0 0) = w5 at *
   clear f0 f1 f2 f3 f4 f5 f6 f7
   simp only [List.set_cons_succ, List.set_cons_zero, List.setIfInBounds_toArray] at S
   go_wp2_with fail
   refine wp_region_L (fun v => v.cell? ⟨w.heap.size, 7, none⟩ = some (.slice Aa7 na7 ca7) ∧ v.cell? ⟨w.heap.size, 13, none⟩ = some (.int .i64 t.book.base) ∧ v.cell? ⟨w.heap.size, 14, none⟩ = some (.int .i64 t.book.tm) ∧ v.cell? ⟨w.heap.size, 15, none⟩ = some (.slice Aa15 na15 ca15)) 16 (by kernel_rfl) ?_
   replace S := S.keep ((Below.refl _ _).drew)
   replace c := c.drew
   generalize w5.drew = w6 at *
   have HF : w6.cell? ⟨w.heap.size, 7, none⟩ = some (.slice Aa7 na7 ca7) ∧ w6.cell? ⟨w.heap.size, 13, none⟩ = some (.int .i64 t.book.base) ∧ w6.cell? ⟨w.heap.size, 14, none⟩ = some (.int .i64 t.book.tm) ∧ w6.cell? ⟨w.heap.size, 15, none⟩ = some (.slice Aa15 na15 ca15) := ⟨(S.at_ 2 rfl).cell 7, (S.at_ 2 rfl).cell 13, (S.at_ 2 rfl).cell 14, (S.at_ 2 rfl).cell 15⟩
   refine tk 0 (v := ?_) rfl rfl HF (.inl ⟨by rfl, ?_⟩) ?_
   rotate_left 1
   · (rintro v ⟨a0, a1, a2, a3⟩; go_simp; try with_reducible rfl)
   try simp only [Act.put]
   refine tk 1 (v := ?_) rfl rfl HF (.inl ⟨by rfl, ?_⟩) ?_
   rotate_left 1
   · (rintro v ⟨a0, a1, a2, a3⟩; go_simp; try with_reducible rfl)
   try simp only [Act.put]
   refine tk 2 (v := ?_) rfl rfl HF (.inl ⟨by rfl, ?_⟩) ?_
   rotate_left 1
   · (rintro v ⟨a0, a1, a2, a3⟩; go_simp; try with_reducible rfl)
   try simp only [Act.put]
   refine tk 3 (v := ?_) rfl rfl HF (.inl ⟨by rfl, ?_⟩) ?_
   rotate_left 1
   · (rintro v ⟨a0, a1, a2, a3⟩; go_simp; try with_reducible rfl)
   try simp only [Act.put]
   refine tk 4 (v := ?_) rfl rfl HF (.inl ⟨by rfl, ?_⟩) ?_
   rotate_left 1
   · (rintro v ⟨a0, a1, a2, a3⟩; go_simp; try with_reducible rfl)
   try simp only [Act.put]
   refine tk 5 (v := ?_) rfl rfl HF (.inl ⟨by rfl, ?_⟩) ?_
   rotate_left 1
   · (rintro v ⟨a0, a1, a2, a3⟩; go_simp; try with_reducible rfl)
   try simp only [Act.put]
   refine tk 6 (v := ?_) rfl rfl HF (.inl ⟨by rfl, ?_⟩) ?_
   rotate_left 1
   · (rintro v ⟨a0, a1, a2, a3⟩; go_simp; try with_reducible rfl)
   try simp only [Act.put]
   refine tk 7 (v := ?_) rfl rfl HF (.inl ⟨by rfl, ?_⟩) ?_
   rotate_left 1
   · (rintro v ⟨a0, a1, a2, a3⟩; go_simp; try with_reducible rfl)
   try simp only [Act.put]
   refine tk 8 (v := ?_) rfl rfl HF (.inl ⟨by rfl, ?_⟩) ?_
   rotate_left 1
   · (rintro v ⟨a0, a1, a2, a3⟩; go_simp; try with_reducible rfl)
   try simp only [Act.put]
   refine tk 9 (v := ?_) rfl rfl HF (.inl ⟨by rfl, ?_⟩) ?_
   rotate_left 1
   · (rintro v ⟨a0, a1, a2, a3⟩; go_simp; try with_reducible rfl)
   try simp only [Act.put]
   refine wpAnyL_step (i := 10) (by kernel_rfl) rfl rfl ?_
   intro K hK
   go_simp
   refine (sPart12_any t.book.base t.book.tm _ _ _ w.heap.size t.book.ents (t.book.base + 1) i _ (he4.keep c) c.size (Nat.le_trans ye4 (by decide))).mono ?_
   rintro e w7 ⟨A4, n4, c4, rfl, o, b⟩
   obtain ⟨fp_pt, S'⟩ := S.has b o c.size
   replace c := c.trans (b.mono c.size)
   clear S; have S := S'; clear S' o b
   clear HF
   have HF : w7.cell? ⟨w.heap.size, 7, none⟩ = some (.slice Aa7 na7 ca7) ∧ w7.cell? ⟨w.heap.size, 13, none⟩ = some (.int .i64 t.book.base) ∧ w7.cell? ⟨w.heap.size, 14, none⟩ = some (.int .i64 t.book.tm) ∧ w7.cell? ⟨w.heap.size, 15, none⟩ = some (.slice Aa15 na15 ca15) := ⟨(S.at_ 3 rfl).cell 7, (S.at_ 3 rfl).cell 13, (S.at_ 3 rfl).cell 14, (S.at_ 3 rfl).cell 15⟩
   refine hK _ _ (fun _ => HF) ?_
   clear hK K
   try simp only [Act.put]
   refine wpAnyL_step (i := 11) (by kernel_rfl) rfl rfl ?_
   intro K hK
   go_simp
   refine (sOver_any _ _ _ w.heap.size t.head.seen _ _ _ _ (selE t.book.ents (t.book.base + 1) i) _ (hm1.keep c) c.size (Nat.le_trans ys1 (by decide)) (S.own_ 0 rfl).rd (Nat.le_refl _) ZS.out).mono ?_
   rintro e w8 ⟨A3, n3, c3, rfl, o, b⟩
   obtain ⟨fp_sn, S'⟩ := S.has b o c.size
   replace c := c.trans (b.mono c.size)
   clear S; have S := S'; clear S' o b
   clear HF
   have HF : w8.cell? ⟨w.heap.size, 7, none⟩ = some (.slice Aa7 na7 ca7) ∧ w8.cell? ⟨w.heap.size, 13, none⟩ = some (.int .i64 t.book.base) ∧ w8.cell? ⟨w.heap.size, 14, none⟩ = some (.int .i64 t.book.tm) ∧ w8.cell? ⟨w.heap.size, 15, none⟩ = some (.slice Aa15 na15 ca15) := ⟨(S.at_ 4 rfl).cell 7, (S.at_ 4 rfl).cell 13, (S.at_ 4 rfl).cell 14, (S.at_ 4 rfl).cell 15⟩
   refine hK _ _ (fun _ => HF) ?_
   clear hK K
   try simp only [Act.put]
   refine wpAnyL_pure (i := 12) (v := ?_) rfl rfl (by kernel_rfl) (by kernel_rfl) (by kernel_rfl) (fun _ _ _ h => h) HF (Or.inl ⟨by rfl, ?_⟩) ?_
   rotate_left 1
   · (intro v _; go_simp; try with_reducible rfl)
   try simp only [Act.put]
   refine wpAnyL_pure (i := 13) (v := ?_) rfl rfl (by kernel_rfl) (by kernel_rfl) (by kernel_rfl) (fun _ _ _ h => h) HF (Or.inl ⟨by rfl, ?_⟩) ?_
   rotate_left 1
   · (intro v _; go_simp; try with_reducible rfl)
   try simp only [Act.put]
   refine wpAnyL_pure (i := 14) (v := ?_) rfl rfl (by kernel_rfl) (by kernel_rfl) (by kernel_rfl) (fun _ _ _ h => h) HF (Or.inl ⟨by rfl, ?_⟩) ?_
   rotate_left 1
   · (intro v _; go_simp; try with_reducible rfl)
   try simp only [Act.put]
   refine tk 15 (v := ?_) rfl rfl HF (.inl ⟨by rfl, ?_⟩) ?_
   rotate_left 1
   · (rintro v ⟨a0, a1, a2, a3⟩; go_simp; try with_reducible rfl)
   try simp only [Act.put]
   have f8 := lk S 2 0 rfl rfl
   have f9 := (S.at_ 2 rfl).free 0
   have f10 := lk S 2 1 rfl rfl
   have f11 := (S.at_ 2 rfl).free 1
   have f12 := lk S 2 2 rfl rfl
   have f13 := (S.at_ 2 rfl).free 2
   have f14 := lk S 2 3 rfl rfl
   have f15 := (S.at_ 2 rfl).free 3
   refine wpAnyL_step (i := 16) (by kernel_rfl) rfl rfl ?_
   intro K hK
   go_simp
   refine hK _ _ (fun h => nomatch (show true = false from h)) ?_
   clear hK K
   try simp only [Act.put]
   refine wpAnyL_done (by kernel_rfl) ?_ _
   replace S := S.put 2 rfl 3 (.slice A3 n3 c3)
   replace c := st c S (S.base_le 2 rfl)
   clear HF
   generalize w8.setCell ⟨qb, 3, none⟩ (.slice A3 n3 c3) = w9 at *
   clear f8 f9 f10 f11 f12 f13 f14 f15
   simp only [List.set_cons_succ, List.set_cons_zero, List.setIfInBounds_toArray] at S
   have f16 := lk S 2 0 rfl rfl
   have f17 := lk S 2 1 rfl rfl
   have f18 := lk S 2 2 rfl rfl
   have f19 := lk S 2 3 rfl rfl
   have f20 := lk S 3 0 rfl rfl
   have f21 := (S.at_ 3 rfl).free 0
   have f22 := lk S 3 1 rfl rfl
   have f23 := (S.at_ 3 rfl).free 1
   have f24 := lk S 3 2 rfl rfl
   have f25 := (S.at_ 3 rfl).free 2
   have f26 := lk S 3 3 rfl rfl
   have f27 := (S.at_ 3 rfl).free 3
   replace S := S.put 3 rfl 0 (.int .i64 (t.head.num + 1))
   replace c := st c S (by omega)
   replace S := S.put 3 rfl 1 (.int .i64 i)
   replace c := st c S (by omega)
   replace S := S.put 3 rfl 2 (.int .i64 (timeAt t.book i))
   replace c := st c S (by omega)
   replace S := S.put 3 rfl 3 (.slice A3 n3 c3)
   replace c := st c S (by omega)
   replace S := S.pick 0 rfl
   have H := jd S.first
   have r0 := jd ((S.at_ 3 rfl).cell 0)
   have r1 := jd ((S.at_ 3 rfl).cell 1)
   have r2 := jd ((S.at_ 3 rfl).cell 2)
   have r3 := jd ((S.at_ 3 rfl).cell 3)
   have CC := jd c
   clear S c
   go_wp2
   exact bodyPost_ret (v := .agg #[.int .i64 (t.head.num + 1), .int .i64 i, .int .i64 (timeAt t.book i), .slice A3 n3 c3]) (by simp [results, Tryz.results37, go_sem, r0.out, r1.out, r2.out, r3.out]) rfl ⟨_, _, _, rfl, H.out, CC.out⟩
 · intro K hK
   go_simp
   replace S := S.boxAt c.size (w2.heap.size) rfl #[.int .i64 0, .int .i64 0, .int .i64 0, .slice none 0 0] 46
   replace c := al c S
   clear HF
   have HF : (w2.alloc (.cells #[.int .i64 0, .int .i64 0, .int .i64 0, .slice none 0 0] 46)).cell? ⟨w.heap.size, 4, none⟩ = some (.int .i64 t.head.num) ∧ (w2.alloc (.cells #[.int .i64 0, .int .i64 0, .int .i64 0, .slice none 0 0] 46)).cell? ⟨w.heap.size, 13, none⟩ = some (.int .i64 t.book.base) ∧ (w2.alloc (.cells #[.int .i64 0, .int .i64 0, .int .i64 0, .slice none 0 0] 46)).cell? ⟨w.heap.size, 14, none⟩ = some (.int .i64 t.book.tm) ∧ (w2.alloc (.cells #[.int .i64 0, .int .i64 0, .int .i64 0, .slice none 0 0] 46)).cell? ⟨w.heap.size, 15, none⟩ = some (.slice Aa15 na15 ca15) := ⟨(S.at_ 2 rfl).cell 4, (S.at_ 2 rfl).cell 13, (S.at_ 2 rfl).cell 14, (S.at_ 2 rfl).cell 15⟩
   refine hK _ _ (fun _ => HF) ?_
   clear hK K
   try simp only [Act.put]
   generalize hw : w2.alloc (.cells #[.int .i64 0, .int .i64 0, .int .i64 0, .slice none 0 0] 46) = w3 at *
   clear hw
   obtain ⟨qb, hqb⟩ : ∃ q, q = w2.heap.size := ⟨_, rfl⟩
   rw [← hqb] at S ⊢
   clear hqb
   refine wpAnyL_step (i := 8) (by kernel_rfl) rfl rfl ?_
   intro K hK
   go_simp
   refine (sTimeAt_any t.book.base t.book.tm _ _ _ w.heap.size t.book.ents i _ (he4.keep c) c.size (Nat.le_trans ye4 (by decide)) (by have := HX.out; omega) HI.out).mono ?_
   rintro e w4 ⟨rfl, b⟩
   replace c := c.trans (b.mono c.size)
   replace S := S.keep b
   clear b
   clear HF
   have HF : w4.cell? ⟨w.heap.size, 4, none⟩ = some (.int .i64 t.head.num) ∧ w4.cell? ⟨w.heap.size, 13, none⟩ = some (.int .i64 t.book.base) ∧ w4.cell? ⟨w.heap.size, 14, none⟩ = some (.int .i64 t.book.tm) ∧ w4.cell? ⟨w.heap.size, 15, none⟩ = some (.slice Aa15 na15 ca15) := ⟨(S.at_ 2 rfl).cell 4, (S.at_ 2 rfl).cell 13, (S.at_ 2 rfl).cell 14, (S.at_ 2 rfl).cell 15⟩
   refine hK _ _ (fun _ => HF) ?_
   clear hK K
   try simp only [Act.put]
   refine wpAnyL_pure (i := 9) (v := ?_) rfl rfl (by kernel_rfl) (by kernel_rfl) (by kernel_rfl) (fun _ _ _ h => h) HF (Or.inl ⟨by rfl, ?_⟩) ?_
   rotate_left 1
   · (intro v _; go_simp; try with_reducible rfl)
   try simp only [Act.put]
   have f0 := lk S 0 0 rfl rfl
   have f1 := (S.at_ 0 rfl).free 0
   have f2 := lk S 0 1 rfl rfl
   have f3 := (S.at_ 0 rfl).free 1
   have f4 := lk S 0 2 rfl rfl
   have f5 := (S.at_ 0 rfl).free 2
   have f6 := lk S 0 3 rfl rfl
   have f7 := (S.at_ 0 rfl).free 3
   refine wpAnyL_step (i := 11) (by kernel_rfl) rfl rfl ?_
   intro K hK
   go_simp
   refine hK _ _ (fun h => nomatch (show true = false from h)) ?_
   clear hK K
   try simp only [Act.put]
   refine wpAnyL_done (by kernel_rfl) ?_ _
   replace S := S.put 0 rfl 0 (.int .i64 (t.head.num + 1))
   replace c := st c S (S.base_le 0 rfl)
   replace S := S.put 0 rfl 1 (.int .i64 i)
   replace c := st c S (S.base_le 0 rfl)
   replace S := S.put 0 rfl 2 (.int .i64 (timeAt t.book i))
   replace c := st c S (S.base_le 0 rfl)
   replace S := S.put 0 rfl 3 (.slice none 0 0)
   replace c := st c S (S.base_le 0 rfl)
   clear HF
   generalize (((w4.setCell ⟨qb, 0, none⟩ (.int .i64 (t.head.num + 1))).setCell ⟨qb, 1, none⟩ (.int .i64 i)).setCell ⟨qb, 2, none⟩ (.int .i64 (timeAt t.book i))).setCell ⟨qb, 3, none⟩ (.slice none 0 0) = w5 at *
   clear f0 f1 f2 f3 f4 f5 f6 f7
   simp only [List.set_cons_succ, List.set_cons_zero, List.setIfInBounds_toArray] at S
   go_wp2_with fail
   refine wp_region_L (fun v => v.cell? ⟨w.heap.size, 7, none⟩ = some (.slice Aa7 na7 ca7) ∧ v.cell? ⟨w.heap.size, 13, none⟩ = some (.int .i64 t.book.base) ∧ v.cell? ⟨w.heap.size, 14, none⟩ = some (.int .i64 t.book.tm) ∧ v.cell? ⟨w.heap.size, 15, none⟩ = some (.slice Aa15 na15 ca15)) 16 (by kernel_rfl) ?_
   replace S := S.keep ((Below.refl _ _).drew)
   replace c := c.drew
   generalize w5.drew = w6 at *
   have HF : w6.cell? ⟨w.heap.size, 7, none⟩ = some (.slice Aa7 na7 ca7) ∧ w6.cell? ⟨w.heap.size, 13, none⟩ = some (.int .i64 t.book.base) ∧ w6.cell? ⟨w.heap.size, 14, none⟩ = some (.int .i64 t.book.tm) ∧ w6.cell? ⟨w.heap.size, 15, none⟩ = some (.slice Aa15 na15 ca15) := ⟨(S.at_ 2 rfl).cell 7, (S.at_ 2 rfl).cell 13, (S.at_ 2 rfl).cell 14, (S.at_ 2 rfl).cell 15⟩
   refine tk 0 (v := ?_) rfl rfl HF (.inl ⟨by rfl, ?_⟩) ?_
   rotate_left 1
   · (rintro v ⟨a0, a1, a2, a3⟩; go_simp; try with_reducible rfl)
   try simp only [Act.put]
   refine tk 1 (v := ?_) rfl rfl HF (.inl ⟨by rfl, ?_⟩) ?_
   rotate_left 1
   · (rintro v ⟨a0, a1, a2, a3⟩; go_simp; try with_reducible rfl)
   try simp only [Act.put]
   refine tk 2 (v := ?_) rfl rfl HF (.inl ⟨by rfl, ?_⟩) ?_
   rotate_left 1
   · (rintro v ⟨a0, a1, a2, a3⟩; go_simp; try with_reducible rfl)
   try simp only [Act.put]
   refine tk 3 (v := ?_) rfl rfl HF (.inl ⟨by rfl, ?_⟩) ?_
   rotate_left 1
   · (rintro v ⟨a0, a1, a2, a3⟩; go_simp; try with_reducible rfl)
   try simp only [Act.put]
   refine tk 4 (v := ?_) rfl rfl HF (.inl ⟨by rfl, ?_⟩) ?_
   rotate_left 1
   · (rintro v ⟨a0, a1, a2, a3⟩; go_simp; try with_reducible rfl)
   try simp only [Act.put]
   refine tk 5 (v := ?_) rfl rfl HF (.inl ⟨by rfl, ?_⟩) ?_
   rotate_left 1
   · (rintro v ⟨a0, a1, a2, a3⟩; go_simp; try with_reducible rfl)
   try simp only [Act.put]
   refine tk 6 (v := ?_) rfl rfl HF (.inl ⟨by rfl, ?_⟩) ?_
   rotate_left 1
   · (rintro v ⟨a0, a1, a2, a3⟩; go_simp; try with_reducible rfl)
   try simp only [Act.put]
   refine tk 7 (v := ?_) rfl rfl HF (.inl ⟨by rfl, ?_⟩) ?_
   rotate_left 1
   · (rintro v ⟨a0, a1, a2, a3⟩; go_simp; try with_reducible rfl)
   try simp only [Act.put]
   refine tk 8 (v := ?_) rfl rfl HF (.inl ⟨by rfl, ?_⟩) ?_
   rotate_left 1
   · (rintro v ⟨a0, a1, a2, a3⟩; go_simp; try with_reducible rfl)
   try simp only [Act.put]
   refine tk 9 (v := ?_) rfl rfl HF (.inl ⟨by rfl, ?_⟩) ?_
   rotate_left 1
   · (rintro v ⟨a0, a1, a2, a3⟩; go_simp; try with_reducible rfl)
   try simp only [Act.put]
   refine wpAnyL_step (i := 10) (by kernel_rfl) rfl rfl ?_
   intro K hK
   go_simp
   refine (sPart12_any t.book.base t.book.tm _ _ _ w.heap.size t.book.ents (t.book.base + 1) i _ (he4.keep c) c.size (Nat.le_trans ye4 (by decide))).mono ?_
   rintro e w7 ⟨A4, n4, c4, rfl, o, b⟩
   obtain ⟨fp_pt, S'⟩ := S.has b o c.size
   replace c := c.trans (b.mono c.size)
   clear S; have S := S'; clear S' o b
   clear HF
   have HF : w7.cell? ⟨w.heap.size, 7, none⟩ = some (.slice Aa7 na7 ca7) ∧ w7.cell? ⟨w.heap.size, 13, none⟩ = some (.int .i64 t.book.base) ∧ w7.cell? ⟨w.heap.size, 14, none⟩ = some (.int .i64 t.book.tm) ∧ w7.cell? ⟨w.heap.size, 15, none⟩ = some (.slice Aa15 na15 ca15) := ⟨(S.at_ 3 rfl).cell 7, (S.at_ 3 rfl).cell 13, (S.at_ 3 rfl).cell 14, (S.at_ 3 rfl).cell 15⟩
   refine hK _ _ (fun _ => HF) ?_
   clear hK K
   try simp only [Act.put]
   refine wpAnyL_step (i := 11) (by kernel_rfl) rfl rfl ?_
   intro K hK
   go_simp
   refine (sOver_any _ _ _ w.heap.size t.head.seen _ _ _ _ (selE t.book.ents (t.book.base + 1) i) _ (hm1.keep c) c.size (Nat.le_trans ys1 (by decide)) (S.own_ 0 rfl).rd (Nat.le_refl _) ZS.out).mono ?_
   rintro e w8 ⟨A3, n3, c3, rfl, o, b⟩
   obtain ⟨fp_sn, S'⟩ := S.has b o c.size
   replace c := c.trans (b.mono c.size)
   clear S; have S := S'; clear S' o b
   clear HF
   have HF : w8.cell? ⟨w.heap.size, 7, none⟩ = some (.slice Aa7 na7 ca7) ∧ w8.cell? ⟨w.heap.size, 13, none⟩ = some (.int .i64 t.book.base) ∧ w8.cell? ⟨w.heap.size, 14, none⟩ = some (.int .i64 t.book.tm) ∧ w8.cell? ⟨w.heap.size, 15, none⟩ = some (.slice Aa15 na15 ca15) := ⟨(S.at_ 4 rfl).cell 7, (S.at_ 4 rfl).cell 13, (S.at_ 4 rfl).cell 14, (S.at_ 4 rfl).cell 15⟩
   refine hK _ _ (fun _ => HF) ?_
   clear hK K
   try simp only [Act.put]
   refine wpAnyL_pure (i := 12) (v := ?_) rfl rfl (by kernel_rfl) (by kernel_rfl) (by kernel_rfl) (fun _ _ _ h => h) HF (Or.inl ⟨by rfl, ?_⟩) ?_
   rotate_left 1
   · (intro v _; go_simp; try with_reducible rfl)
   try simp only [Act.put]
   refine wpAnyL_pure (i := 13) (v := ?_) rfl rfl (by kernel_rfl) (by kernel_rfl) (by kernel_rfl) (fun _ _ _ h => h) HF (Or.inl ⟨by rfl, ?_⟩) ?_
   rotate_left 1
   · (intro v _; go_simp; try with_reducible rfl)
   try simp only [Act.put]
   refine wpAnyL_pure (i := 14) (v := ?_) rfl rfl (by kernel_rfl) (by kernel_rfl) (by kernel_rfl) (fun _ _ _ h => h) HF (Or.inl ⟨by rfl, ?_⟩) ?_
   rotate_left 1
   · (intro v _; go_simp; try with_reducible rfl)
   try simp only [Act.put]
   refine tk 15 (v := ?_) rfl rfl HF (.inl ⟨by rfl, ?_⟩) ?_
   rotate_left 1
   · (rintro v ⟨a0, a1, a2, a3⟩; go_simp; try with_reducible rfl)
   try simp only [Act.put]
   have f8 := lk S 2 0 rfl rfl
   have f9 := (S.at_ 2 rfl).free 0
   have f10 := lk S 2 1 rfl rfl
   have f11 := (S.at_ 2 rfl).free 1
   have f12 := lk S 2 2 rfl rfl
   have f13 := (S.at_ 2 rfl).free 2
   have f14 := lk S 2 3 rfl rfl
   have f15 := (S.at_ 2 rfl).free 3
   refine wpAnyL_step (i := 16) (by kernel_rfl) rfl rfl ?_
   intro K hK
   go_simp
   refine hK _ _ (fun h => nomatch (show true = false from h)) ?_
   clear hK K
   try simp only [Act.put]
   refine wpAnyL_done (by kernel_rfl) ?_ _
   replace S := S.put 2 rfl 3 (.slice A3 n3 c3)
   replace c := st c S (S.base_le 2 rfl)
   clear HF
   generalize w8.setCell ⟨qb, 3, none⟩ (.slice A3 n3 c3) = w9 at *
   clear f8 f9 f10 f11 f12 f13 f14 f15
   simp only [List.set_cons_succ, List.set_cons_zero, List.setIfInBounds_toArray] at S
   have f16 := lk S 2 0 rfl rfl
   have f17 := lk S 2 1 rfl rfl
   have f18 := lk S 2 2 rfl rfl
   have f19 := lk S 2 3 rfl rfl
   have f20 := lk S 3 0 rfl rfl
   have f21 := (S.at_ 3 rfl).free 0
   have f22 := lk S 3 1 rfl rfl
   have f23 := (S.at_ 3 rfl).free 1
   have f24 := lk S 3 2 rfl rfl
   have f25 := (S.at_ 3 rfl).free 2
   have f26 := lk S 3 3 rfl rfl
   have f27 := (S.at_ 3 rfl).free 3
   replace S := S.put 3 rfl 0 (.int .i64 (t.head.num + 1))
   replace c := st c S (by omega)
   replace S := S.put 3 rfl 1 (.int .i64 i)
   replace c := st c S (by omega)
   replace S := S.put 3 rfl 2 (.int .i64 (timeAt t.book i))
   replace c := st c S (by omega)
   replace S := S.put 3 rfl 3 (.slice A3 n3 c3)
   replace c := st c S (by omega)
   replace S := S.pick 0 rfl
   have H := jd S.first
   have r0 := jd ((S.at_ 3 rfl).cell 0)
   have r1 := jd ((S.at_ 3 rfl).cell 1)
   have r2 := jd ((S.at_ 3 rfl).cell 2)
   have r3 := jd ((S.at_ 3 rfl).cell 3)
   have CC := jd c
   clear S c
   go_wp2
   exact bodyPost_ret (v := .agg #[.int .i64 (t.head.num + 1), .int .i64 i, .int .i64 (timeAt t.book i), .slice A3 n3 c3]) (by simp [results, Tryz.results37, go_sem, r0.out, r1.out, r2.out, r3.out]) rfl ⟨_, _, _, rfl, H.out, CC.out⟩
end Go.Proofs.YthjjdelpdiipdaaGreatDoor

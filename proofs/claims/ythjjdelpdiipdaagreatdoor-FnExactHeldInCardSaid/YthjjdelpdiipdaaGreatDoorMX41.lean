/- Parts of my texts: BookI5 LogI3. -/
import Derived.Test.YthjjdelpdiipdaaGreatDoorMX29
import Derived.Test.YthjjdelpdiipdaaGreatDoorMX38
import Derived.Test.YthjjdelpdiipdaaGreatDoorMX40
namespace Go.Proofs.YthjjdelpdiipdaaGreatDoor
set_option maxRecDepth 100000
set_option linter.unusedVariables false
open Go.RowKit
theorem iCollect_any (gf : Nat) (lb : Array Value) (xs : List EntM) (Sp : List EntM → Prop) (eg : ∀ args w, (callFunc gf args).run Tryz.prog w = .ok (.enter gf args) w) (w : World) (hlen : xs.length ≤ 1048576)
    (hseq : SeqStopsK Fence.wide 2 Tryz.prog gf lb encE (Below w.heap.size) (fun ys => ys = xs) Sp xs.length w) :
    Calls Tryz.prog 91 #[.func (.func gf) #[] lb] w (MadeEntryS w xs) := by
 go_enter Tryz.func91, Tryz.ntmps91
 go_wp2_with fail
 refine (iAppendSeq_any gf lb xs Sp eg w hlen hseq).mono ?_
 rintro e w' ⟨A, n, c, rfl, o, b⟩
 go_wp2
 go_ret
 exact ⟨A, n, c, rfl, o, b⟩
theorem iEntriesIn_at (x0 x1 : Int) (A : Option Addr) (n cc : Nat) (a z : Int) (w : World) :
    Calls Tryz.prog 92 #[.agg #[.int .i64 x0, .int .i64 x1, .slice A n cc], .int .i64 a, .int .i64 z] w fun e w' => e = .returned (.func (.func 133) #[] #[.pointer (some ⟨w.heap.size, 0, none⟩), .pointer (some ⟨w.heap.size + 1, 0, none⟩), .pointer (some ⟨w.heap.size + 1 + 1, 0, none⟩)]) ∧ Blk w' w.heap.size #[.int .i64 x0, .int .i64 x1, .slice A n cc] 49 ∧ Blk w' (w.heap.size + 1) #[.int .i64 a] 2 ∧ Blk w' (w.heap.size + 1 + 1) #[.int .i64 z] 2 ∧ Below w.heap.size w w' := by
 refine (iEntriesIn_any x0 x1 A n cc a z w).mono ?_
 rintro e w' ⟨rfl, rfl⟩
 have S := Sep.nil w w.heap.size
 have c := Below.refl w.heap.size w
 replace S := S.boxAt c.size (w.heap.size) rfl #[.int .i64 x0, .int .i64 x1, .slice A n cc] 49
 replace c := al c S
 replace S := S.boxAt c.size (w.heap.size + 1) (by simp) #[.int .i64 a] 2
 replace c := al c S
 replace S := S.boxAt c.size (w.heap.size + 1 + 1) (by simp) #[.int .i64 z] 2
 replace c := al c S
 exact ⟨rfl, S.at_ 2 rfl, S.at_ 1 rfl, S.at_ 0 rfl, c⟩
theorem selE_le (l : List EntM) (a z : Int) : (selE l a z).length ≤ l.length := List.length_filter_le _ _
theorem iCollIter_any (bb bf bl B : Nat) (x0 x1 a z : Int) (A : Option Addr) (n cc : Nat) (l : List EntM) (w : World) (h0 : Blk w bb #[.int .i64 x0, .int .i64 x1, .slice A n cc] 49) (h1 : Blk w bf #[.int .i64 a] 2) (h2 : Blk w bl #[.int .i64 z] 2)
    (hr : Rd w B [entD l] [.slice A n cc]) (hB : B ≤ w.heap.size) (hn : n ≤ 1048576) :
    Calls Tryz.prog 91 #[.func (.func 133) #[] #[.pointer (some ⟨bb, 0, none⟩), .pointer (some ⟨bf, 0, none⟩), .pointer (some ⟨bl, 0, none⟩)]] w (MadeEntryS w (selE l a z)) := by
 refine iCollect_any 133 _ (selE l a z) _ (enters_of Tryz.func133 (by kernel_rfl) rfl) w ?_ (iIter_stops bb bf bl B x0 x1 a z A n cc l (Below w.heap.size) (fun W W' h => ⟨h.mono hB, h.block bb h0.lt, h.block bf h1.lt, h.block bl h2.lt⟩) w h0 h1 h2 hr (by omega) hB)
 obtain ⟨_, _, _, e, hl, _⟩ := hr.ents
 injection e with e1 e2 e3
 have := selE_le l a z
 omega
set_option maxHeartbeats 12800000 in
theorem iBookTo_any (x0 x1 : Int) (A : Option Addr) (n cc B : Nat) (l : List EntM) (i : Int) (w : World) (h : Rd w B [entD l] [.slice A n cc]) (hB : B ≤ w.heap.size) (_hs : entSz l ≤ 1048577) (hn20 : n ≤ 1048576) (hx : 0 ≤ x0 ∧ x0 ≤ 2000) :
    Calls Tryz.prog 50 #[.agg #[.int .i64 x0, .int .i64 x1, .slice A n cc], .int .i64 i] w fun e w' => ∃ (A2 : Option Addr) (n2 c2 : Nat), e = .returned (.agg #[.int .i64 x0, .int .i64 x1, .slice A2 n2 c2]) ∧ Has w' w.heap.size [entD (selE l (x0 + 1) i)] [.slice A2 n2 c2] ∧ Below w.heap.size w w' := by
 have HH := jd h
 have ew : IntKind.i64.wrap (x0 + 1) = x0 + 1 := by rw [IntKind.wrap_i64]; omega
 clear h hx
 have S := Sep.nil w w.heap.size
 have c := Below.refl w.heap.size w
 replace S := S.boxAt c.size (w.heap.size) rfl #[.int .i64 x0, .int .i64 x1, .slice A n cc] 49
 replace c := al c S
 replace S := S.boxAt c.size (w.heap.size + 1) (by simp) #[.int .i64 0, .int .i64 0, .slice none 0 0] 49
 replace c := al c S
 go_enter Tryz.func50, Tryz.ntmps50
 go_wp2_with fail
 generalize (w.alloc (.cells #[.int .i64 x0, .int .i64 x1, .slice A n cc] 49)).alloc (.cells #[.int .i64 0, .int .i64 0, .slice none 0 0] 49) = w1 at *
 refine wp_region_L (fun v => v.cell? ⟨w.heap.size, 0, none⟩ = some (.int .i64 x0) ∧ v.cell? ⟨w.heap.size, 1, none⟩ = some (.int .i64 x1) ∧ v.cell? ⟨w.heap.size, 2, none⟩ = some (.slice A n cc)) 12 (by kernel_rfl) ?_
 replace S := S.keep ((Below.refl _ _).drew)
 replace c := c.drew
 generalize w1.drew = w2 at *
 have HF : w2.cell? ⟨w.heap.size, 0, none⟩ = some (.int .i64 x0) ∧ w2.cell? ⟨w.heap.size, 1, none⟩ = some (.int .i64 x1) ∧ w2.cell? ⟨w.heap.size, 2, none⟩ = some (.slice A n cc) := ⟨(S.at_ 1 rfl).cell 0, (S.at_ 1 rfl).cell 1, (S.at_ 1 rfl).cell 2⟩
 refine tk 0 (v := ?_) rfl rfl HF (.inl ⟨by rfl, ?_⟩) ?_
 rotate_left 1
 · (rintro v ⟨a0, a1, a2⟩; go_simp; try with_reducible rfl)
 try simp only [Act.put]
 refine tk 1 (v := ?_) rfl rfl HF (.inl ⟨by rfl, ?_⟩) ?_
 rotate_left 1
 · (rintro v ⟨a0, a1, a2⟩; go_simp; try with_reducible rfl)
 try simp only [Act.put]
 refine tk 2 (v := ?_) rfl rfl HF (.inl ⟨by rfl, ?_⟩) ?_
 rotate_left 1
 · (rintro v ⟨a0, a1, a2⟩; go_simp; try with_reducible rfl)
 try simp only [Act.put]
 refine tk 3 (v := ?_) rfl rfl HF (.inl ⟨by rfl, ?_⟩) ?_
 rotate_left 1
 · (rintro v ⟨a0, a1, a2⟩; go_simp; try with_reducible rfl)
 try simp only [Act.put]
 refine tk 4 (v := ?_) rfl rfl HF (.inl ⟨by rfl, ?_⟩) ?_
 rotate_left 1
 · (rintro v ⟨a0, a1, a2⟩; go_simp; try with_reducible rfl)
 try simp only [Act.put]
 refine tk 5 (v := ?_) rfl rfl HF (.inl ⟨by rfl, ?_⟩) ?_
 rotate_left 1
 · (rintro v ⟨a0, a1, a2⟩; go_simp; try with_reducible rfl)
 try simp only [Act.put]
 refine tk 6 (v := ?_) rfl rfl HF (.inl ⟨by rfl, ?_⟩) ?_
 rotate_left 1
 · (rintro v ⟨a0, a1, a2⟩; go_simp; try with_reducible rfl)
 try simp only [Act.put]
 refine tk 7 (v := ?_) rfl rfl HF (.inl ⟨by rfl, ?_⟩) ?_
 rotate_left 1
 · (rintro v ⟨a0, a1, a2⟩; go_simp; try with_reducible rfl)
 try simp only [Act.put]
 refine tk 8 (v := ?_) rfl rfl HF (.inl ⟨by rfl, ?_⟩) ?_
 rotate_left 1
 · (rintro v ⟨a0, a1, a2⟩; go_simp; try with_reducible rfl)
 try simp only [Act.put]
 refine wpAnyL_step (i := 9) (by kernel_rfl) rfl rfl ?_
 intro K hK
 go_simp
 refine (iEntriesIn_at x0 x1 A n cc (x0 + 1) i _).mono ?_
 rintro e w3 ⟨rfl, k0, k1, k2, b⟩
 replace c := c.trans (b.mono c.size)
 replace S := S.keep b
 clear b
 clear HF
 have HF : w3.cell? ⟨w.heap.size, 0, none⟩ = some (.int .i64 x0) ∧ w3.cell? ⟨w.heap.size, 1, none⟩ = some (.int .i64 x1) ∧ w3.cell? ⟨w.heap.size, 2, none⟩ = some (.slice A n cc) := ⟨(S.at_ 1 rfl).cell 0, (S.at_ 1 rfl).cell 1, (S.at_ 1 rfl).cell 2⟩
 refine hK _ _ (fun _ => HF) ?_
 clear hK K
 try simp only [Act.put]
 have K0 := jd k0
 have K1 := jd k1
 have K2 := jd k2
 clear k0 k1 k2
 refine wpAnyL_step (i := 10) (by kernel_rfl) rfl rfl ?_
 intro K hK
 go_simp
 refine (iCollIter_any _ _ _ B x0 x1 (x0 + 1) i A n cc l _ K0.out K1.out K2.out (HH.out.keep (c.mono hB)) (Nat.le_trans hB c.size) hn20).mono ?_
 rintro e w4 ⟨A2, n2, c2, rfl, o, b⟩
 obtain ⟨fp_u, S'⟩ := S.has b o c.size
 replace c := c.trans (b.mono c.size)
 clear S; have S := S'; clear S' o b
 clear HF
 have HF : w4.cell? ⟨w.heap.size, 0, none⟩ = some (.int .i64 x0) ∧ w4.cell? ⟨w.heap.size, 1, none⟩ = some (.int .i64 x1) ∧ w4.cell? ⟨w.heap.size, 2, none⟩ = some (.slice A n cc) := ⟨(S.at_ 2 rfl).cell 0, (S.at_ 2 rfl).cell 1, (S.at_ 2 rfl).cell 2⟩
 refine hK _ _ (fun _ => HF) ?_
 clear hK K
 try simp only [Act.put]
 refine wpAnyL_pure (i := 11) (v := ?_) rfl rfl (by kernel_rfl) (by kernel_rfl) (by kernel_rfl) (fun _ _ _ h => h) HF (Or.inl ⟨by rfl, ?_⟩) ?_
 rotate_left 1
 · (intro v _; go_simp; try with_reducible rfl)
 try simp only [Act.put]
 have f0 := lk S 1 0 rfl rfl
 have f1 := (S.at_ 1 rfl).free 0
 have f2 := lk S 1 1 rfl rfl
 have f3 := (S.at_ 1 rfl).free 1
 have f4 := lk S 1 2 rfl rfl
 have f5 := (S.at_ 1 rfl).free 2
 refine wpAnyL_step (i := 12) (by kernel_rfl) rfl rfl ?_
 intro K hK
 go_simp
 refine hK _ _ (fun h => nomatch (show true = false from h)) ?_
 clear hK K
 try simp only [Act.put]
 refine wpAnyL_done (by kernel_rfl) ?_ _
 replace S := S.put 1 rfl 0 (.int .i64 x0)
 replace c := st c S (by omega)
 replace S := S.put 1 rfl 1 (.int .i64 x1)
 replace c := st c S (by omega)
 replace S := S.put 1 rfl 2 (.slice A2 n2 c2)
 replace c := st c S (by omega)
 clear HF
 generalize ((w4.setCell ⟨w.heap.size + 1, 0, none⟩ (.int .i64 x0)).setCell ⟨w.heap.size + 1, 1, none⟩ (.int .i64 x1)).setCell ⟨w.heap.size + 1, 2, none⟩ (.slice A2 n2 c2) = w5 at *
 clear f0 f1 f2 f3 f4 f5
 replace S := S.pick 0 rfl
 have H := jd S.first
 have r0 := jd ((S.at_ 1 rfl).cell 0)
 have r1 := jd ((S.at_ 1 rfl).cell 1)
 have r2 := jd ((S.at_ 1 rfl).cell 2)
 have CC := jd c
 clear S c
 go_wp2
 exact bodyPost_ret (v := .agg #[.int .i64 x0, .int .i64 x1, .slice A2 n2 c2]) (by simp [results, Tryz.results50, go_sem, r0.out, r1.out, r2.out]) rfl ⟨_, _, _, rfl, H.out, CC.out⟩
theorem iEndOf_tm (x0 x1 : Int) (A : Option Addr) (n cc B : Nat) (l : List EntM) (w : World) (h : Rd w B [entD l] [.slice A n cc]) (hB : B ≤ w.heap.size) (hs : entSz l ≤ 1048577) :
    Calls Tryz.prog 125 #[.agg #[.int .i64 x0, .int .i64 x1, .slice A n cc]] w fun e w' => ∃ (m0 m2 m3 m4 m5 m6 m7 m8 : Int), e = .returned (.agg #[.int .i64 m0, .int .i64 (endM ⟨x0, x1, l⟩).tm, .int .i64 m2, .int .i64 m3, .int .i64 m4, .int .i64 m5, .int .i64 m6, .int .i64 m7, .int .i64 m8]) ∧ Below w.heap.size w w' :=
 (iEndOf_any x0 x1 A n cc B l w h hB hs).mono fun _ _ ⟨he, b⟩ => ⟨_, _, _, _, _, _, _, _, he, b⟩
set_option maxHeartbeats 12800000 in
theorem iHeadAfter_any (v0 v1 v2 v3 v4 v5 v6 v7 v8 v9 v10 v11 v12 v13 v14 v15 v16 v17 v18 : Value) (t : LogM) (w : World) (h : Rd w w.heap.size t.cells [v0, v1, v2, v3, v4, v5, v6, v7, v8, v9, v10, v11, v12, v13, v14, v15, v16, v17, v18]) (hs : t.sz ≤ 1048576) (i : Int) (hb : bookB t.book = true) (h1 : t.book.base < i) (h2 : i ≤ lastB t.book) (hnum : 0 ≤ t.head.num ∧ t.head.num ≤ 2000) :
    Calls Tryz.prog 128 #[.agg #[v0, v1, v2, v3, v4, v5, v6, v7, v8, v9, v10, v11, v12, v13, v14, v15, v16, v17, v18], .int .i64 i] w fun e w' => ∃ (A3 : Option Addr) (n3 c3 : Nat), e = .returned (.agg #[.int .i64 (headAt t i).num, .int .i64 (headAt t i).base, .int .i64 (headAt t i).tm, .slice A3 n3 c3]) ∧ Has w' w.heap.size [mrkD (headAt t i).seen] [.slice A3 n3 c3] ∧ Below w.heap.size w w' := by
 obtain ⟨Aa0, na0, ca0, Aa1, na1, ca1, Aa2, na2, ca2, Aa3, na3, ca3, Aa7, na7, ca7, Aa11, na11, ca11, Aa15, na15, ca15, Aa16, na16, ca16, Aa18, na18, ca18, ea0, ea1, ea2, ea3, ea4, ea5, ea6, ea7, ea8, ea9, ea10, ea11, ea12, ea13, ea14, ea15, ea16, ea17, ea18, hr0, hr1, hr2, hr4, hr5, hr7⟩ := h.logT
 subst ea0 ea1 ea2 ea3 ea4 ea5 ea6 ea7 ea8 ea9 ea10 ea11 ea12 ea13 ea14 ea15 ea16 ea17 ea18
 have hz0 : t.two.sz ≤ 1048576 := by unfold LogM.sz at hs; omega
 have hz1 : t.head.sz ≤ 1048576 := by unfold LogM.sz at hs; omega
 have hz2 : t.next.sz ≤ 1048576 := by unfold LogM.sz at hs; omega
 have hz4 : t.book.sz ≤ 1048576 := by unfold LogM.sz at hs; omega
 have hz5 : mrkSz t.seen ≤ 1048576 := by unfold LogM.sz at hs; omega
 have hz7 : oweSz t.owe ≤ 1048576 := by unfold LogM.sz at hs; omega
 have hm1 := (hr1.headL).2.2.2
 have hm2 := (hr2.headL).2.2.2
 have he4 := hr4.bookE
 have ys1 : mrkSz t.head.seen ≤ 1048576 := hz1
 have ys2 : mrkSz t.next.seen ≤ 1048576 := hz2
 have ye4 : entSz t.book.ents ≤ 1048576 := hz4
 clear h hs
 have HT := jd (end_at hb h1 h2)
 have hbk := (bookB_iff t.book).1 hb
 have HX := jd hbk.1
 have hl20 := hbk.2.2.2.1
 have ew : IntKind.i64.wrap (t.head.num + 1) = t.head.num + 1 := by rw [IntKind.wrap_i64]; omega
 have hse := sel_len t.book.ents (t.book.base + 1) i
 have HN20 := jd (show na15 ≤ 1048576 by obtain ⟨_, _, _, e, hl, _⟩ := he4.ents; injection e with e1 e2 e3; omega)
 have ZS := jd (show entSz (selE t.book.ents (t.book.base + 1) i) ≤ 1048577 by unfold entSz; omega)
 clear hbk h1 h2 hb hnum hl20 hse
 have S := Sep.nil w w.heap.size
 have c := Below.refl w.heap.size w
 replace S := S.boxAt c.size (w.heap.size) rfl #[.slice Aa0 na0 ca0, .slice Aa1 na1 ca1, .slice Aa2 na2 ca2, .slice Aa3 na3 ca3, .int .i64 t.head.num, .int .i64 t.head.base, .int .i64 t.head.tm, .slice Aa7 na7 ca7, .int .i64 t.next.num, .int .i64 t.next.base, .int .i64 t.next.tm, .slice Aa11 na11 ca11, .bool t.more, .int .i64 t.book.base, .int .i64 t.book.tm, .slice Aa15 na15 ca15, .slice Aa16 na16 ca16, .int .i64 t.dur, .slice Aa18 na18 ca18] 52
 replace c := al c S
 replace S := S.boxAt c.size (w.heap.size + 1) (by simp) #[.int .i64 0, .int .i64 0, .int .i64 0, .slice none 0 0] 46
 replace c := al c S
 go_enter Tryz.func128, Tryz.ntmps128
 have f0 := lk S 1 13 rfl rfl
 have f1 := lk S 1 14 rfl rfl
 have f2 := lk S 1 15 rfl rfl
 go_wp2_with fail
 generalize (w.alloc (.cells #[.slice Aa0 na0 ca0, .slice Aa1 na1 ca1, .slice Aa2 na2 ca2, .slice Aa3 na3 ca3, .int .i64 t.head.num, .int .i64 t.head.base, .int .i64 t.head.tm, .slice Aa7 na7 ca7, .int .i64 t.next.num, .int .i64 t.next.base, .int .i64 t.next.tm, .slice Aa11 na11 ca11, .bool t.more, .int .i64 t.book.base, .int .i64 t.book.tm, .slice Aa15 na15 ca15, .slice Aa16 na16 ca16, .int .i64 t.dur, .slice Aa18 na18 ca18] 52)).alloc (.cells #[.int .i64 0, .int .i64 0, .int .i64 0, .slice none 0 0] 46) = w1 at *
 refine (iBookTo_any t.book.base t.book.tm _ _ _ w.heap.size t.book.ents i _ (he4.keep c) c.size (Nat.le_trans ye4 (by decide)) HN20.out HX.out).mono ?_
 rintro e w2 ⟨A2, n2, c2, rfl, o, b⟩
 obtain ⟨fp_bk, S'⟩ := S.has b o c.size
 replace c := c.trans (b.mono c.size)
 clear S; have S := S'; clear S' o b f0 f1 f2
 replace S := S.boxAt c.size (w2.heap.size) rfl #[.int .i64 t.book.base, .int .i64 t.book.tm, .slice A2 n2 c2] 49
 replace c := al c S
 have f3 := lk S 3 7 rfl rfl
 have f4 := lk S 0 2 rfl rfl
 go_wp2_with fail
 generalize w2.alloc (.cells #[.int .i64 t.book.base, .int .i64 t.book.tm, .slice A2 n2 c2] 49) = w3 at *
 refine (iSeenOver_c _ _ _ t.head.seen _ _ _ (selE t.book.ents (t.book.base + 1) i) _ ((hm1.keep c).up c.size) (Nat.le_trans ys1 (by decide)) (S.own_ 1 rfl).rd ZS.out).mono ?_
 rintro e w4 ⟨A3, n3, c3, rfl, o, b⟩
 obtain ⟨fp_sn, S'⟩ := S.has b o c.size
 replace c := c.trans (b.mono c.size)
 clear S; have S := S'; clear S' o b f3 f4
 go_wp2_with fail
 refine wp_region_L (fun v => v.cell? ⟨w.heap.size, 4, none⟩ = some (.int .i64 t.head.num) ∧ v.cell? ⟨w2.heap.size, 0, none⟩ = some (.int .i64 t.book.base) ∧ v.cell? ⟨w2.heap.size, 1, none⟩ = some (.int .i64 t.book.tm) ∧ v.cell? ⟨w2.heap.size, 2, none⟩ = some (.slice A2 n2 c2)) 10 (by kernel_rfl) ?_
 replace S := S.keep ((Below.refl _ _).drew)
 replace c := c.drew
 generalize w4.drew = w5 at *
 have HF : w5.cell? ⟨w.heap.size, 4, none⟩ = some (.int .i64 t.head.num) ∧ w5.cell? ⟨w2.heap.size, 0, none⟩ = some (.int .i64 t.book.base) ∧ w5.cell? ⟨w2.heap.size, 1, none⟩ = some (.int .i64 t.book.tm) ∧ w5.cell? ⟨w2.heap.size, 2, none⟩ = some (.slice A2 n2 c2) := ⟨(S.at_ 4 rfl).cell 4, (S.at_ 1 rfl).cell 0, (S.at_ 1 rfl).cell 1, (S.at_ 1 rfl).cell 2⟩
 refine tk 0 (v := ?_) rfl rfl HF (.inl ⟨by rfl, ?_⟩) ?_
 rotate_left 1
 · (rintro v ⟨a0, a1, a2, a3⟩; go_simp; try with_reducible rfl)
 try simp only [Act.put]
 refine tk 1 (v := ?_) rfl rfl HF (.inl ⟨by rfl, ?_⟩) ?_
 rotate_left 1
 · (rintro v ⟨a0, a1, a2, a3⟩; go_simp; try with_reducible rfl)
 try simp only [Act.put]
 refine tk 2 (v := ?_) rfl rfl HF (.inl ⟨by rfl, ?_⟩) ?_
 rotate_left 1
 · (rintro v ⟨a0, a1, a2, a3⟩; go_simp; try with_reducible rfl)
 try simp only [Act.put]
 refine tk 3 (v := ?_) rfl rfl HF (.inl ⟨by rfl, ?_⟩) ?_
 rotate_left 1
 · (rintro v ⟨a0, a1, a2, a3⟩; go_simp; try with_reducible rfl)
 try simp only [Act.put]
 refine tk 4 (v := ?_) rfl rfl HF (.inl ⟨by rfl, ?_⟩) ?_
 rotate_left 1
 · (rintro v ⟨a0, a1, a2, a3⟩; go_simp; try with_reducible rfl)
 try simp only [Act.put]
 refine tk 5 (v := ?_) rfl rfl HF (.inl ⟨by rfl, ?_⟩) ?_
 rotate_left 1
 · (rintro v ⟨a0, a1, a2, a3⟩; go_simp; try with_reducible rfl)
 try simp only [Act.put]
 refine tk 8 (v := ?_) rfl rfl HF (.inl ⟨by rfl, ?_⟩) ?_
 rotate_left 1
 · (rintro v ⟨a0, a1, a2, a3⟩; go_simp; try with_reducible rfl)
 try simp only [Act.put]
 refine wpAnyL_step (i := 6) (by kernel_rfl) rfl rfl ?_
 intro K hK
 go_simp
 refine (iEndOf_tm t.book.base t.book.tm _ _ _ _ (selE t.book.ents (t.book.base + 1) i) _ (S.own_ 2 rfl).rd (Nat.le_refl _) ZS.out).mono ?_
 rintro e w6 ⟨m0, m2, m3, m4, m5, m6, m7, m8, rfl, b⟩
 replace c := c.trans (b.mono c.size)
 replace S := S.keep b
 clear b
 clear HF
 have HF : w6.cell? ⟨w.heap.size, 4, none⟩ = some (.int .i64 t.head.num) ∧ w6.cell? ⟨w2.heap.size, 0, none⟩ = some (.int .i64 t.book.base) ∧ w6.cell? ⟨w2.heap.size, 1, none⟩ = some (.int .i64 t.book.tm) ∧ w6.cell? ⟨w2.heap.size, 2, none⟩ = some (.slice A2 n2 c2) := ⟨(S.at_ 4 rfl).cell 4, (S.at_ 1 rfl).cell 0, (S.at_ 1 rfl).cell 1, (S.at_ 1 rfl).cell 2⟩
 refine hK _ _ (fun _ => HF) ?_
 clear hK K
 try simp only [Act.put]
 rw [HT.out]
 have hfd : ∀ w9, (Instr.field 98 (.agg #[.int .i64 m0, .int .i64 (timeAt t.book i), .int .i64 m2, .int .i64 m3, .int .i64 m4, .int .i64 m5, .int .i64 m6, .int .i64 m7, .int .i64 m8]) 1).run Tryz.prog w9 = .ok (.int .i64 (timeAt t.book i)) w9 := fun _ => by kernel_rfl
 refine wpAnyL_pure (i := 7) (v := ?_) rfl rfl (by kernel_rfl) (by kernel_rfl) (by kernel_rfl) (fun _ _ _ h => h) HF (Or.inl ⟨by rfl, ?_⟩) ?_
 rotate_left 1
 · (intro v _; go_simp; try with_reducible rfl)
 try simp only [Act.put]
 refine wpAnyL_pure (i := 9) (v := ?_) rfl rfl (by kernel_rfl) (by kernel_rfl) (by kernel_rfl) (fun _ _ _ h => h) HF (Or.inl ⟨by rfl, ?_⟩) ?_
 rotate_left 1
 · (intro v _; go_simp; try with_reducible rfl)
 try simp only [Act.put]
 have f5 := lk S 3 0 rfl rfl
 have f6 := (S.at_ 3 rfl).free 0
 have f7 := lk S 3 1 rfl rfl
 have f8 := (S.at_ 3 rfl).free 1
 have f9 := lk S 3 2 rfl rfl
 have f10 := (S.at_ 3 rfl).free 2
 have f11 := lk S 3 3 rfl rfl
 have f12 := (S.at_ 3 rfl).free 3
 refine wpAnyL_step (i := 10) (by kernel_rfl) rfl rfl ?_
 intro K hK
 go_simp
 refine hK _ _ (fun h => nomatch (show true = false from h)) ?_
 clear hK K
 try simp only [Act.put]
 refine wpAnyL_done (by kernel_rfl) ?_ _
 replace S := S.put 3 rfl 0 (.int .i64 (t.head.num + 1))
 replace c := st c S (by omega)
 replace S := S.put 3 rfl 1 (.int .i64 i)
 replace c := st c S (by omega)
 replace S := S.put 3 rfl 2 (.int .i64 (timeAt t.book i))
 replace c := st c S (by omega)
 replace S := S.put 3 rfl 3 (.slice A3 n3 c3)
 replace c := st c S (by omega)
 clear HF
 generalize (((w6.setCell ⟨w.heap.size + 1, 0, none⟩ (.int .i64 (t.head.num + 1))).setCell ⟨w.heap.size + 1, 1, none⟩ (.int .i64 i)).setCell ⟨w.heap.size + 1, 2, none⟩ (.int .i64 (timeAt t.book i))).setCell ⟨w.heap.size + 1, 3, none⟩ (.slice A3 n3 c3) = w7 at *
 clear f5 f6 f7 f8 f9 f10 f11 f12
 replace S := S.pick 0 rfl
 have H := jd S.first
 have r0 := jd ((S.at_ 3 rfl).cell 0)
 have r1 := jd ((S.at_ 3 rfl).cell 1)
 have r2 := jd ((S.at_ 3 rfl).cell 2)
 have r3 := jd ((S.at_ 3 rfl).cell 3)
 have CC := jd c
 clear S c
 go_wp2
 exact bodyPost_ret (v := .agg #[.int .i64 (t.head.num + 1), .int .i64 i, .int .i64 (timeAt t.book i), .slice A3 n3 c3]) (by simp [results, Tryz.results128, go_sem, r0.out, r1.out, r2.out, r3.out]) rfl ⟨_, _, _, rfl, H.out, CC.out⟩
end Go.Proofs.YthjjdelpdiipdaaGreatDoor

/- Parts of my texts: LogI5. -/
import Derived.Test.YthjjdelpdiipdaaGreatDoorMX43
namespace Go.Proofs.YthjjdelpdiipdaaGreatDoor
set_option maxRecDepth 100000
set_option linter.unusedVariables false
open Go.RowKit
attribute [local go_sem] Oper.semAt_some
theorem ow_nil_owes (w : World) : Ow w [oweD []] [.slice none 0 0] [] := Ow.row (n := 0) (us := []) (fp1 := []) (fp2 := []) (World.ownsRow_nil w 0 _ _) .nil .nil
theorem owed_len (n : LogM) : (owedM n).length ≤ n.book.ents.length := by
 unfold owedM
 rw [List.length_map]
 exact sel_len _ _ _
def OweG (w : World) (fix : List Item) (b M : Nat) (pre : List EntM) (W : World) : Prop := ∃ (G : Option Addr) (m gc : Nat) (fp : List Nat), m = pre.length ∧ Sep W w.heap.size (.own [oweD (pre.map ackM)] [.slice G m gc] fp :: .blk b #[.slice G m gc] 50 :: fix) ∧ Below w.heap.size w W ∧ M ≤ W.heap.size
theorem oweG_own {w : World} {fix : List Item} {b M B : Nat} (hB : w.heap.size ≤ B) : OwnFrom B (OweG w fix b M) := fun _ _ _ _ hs hg hr => by
 obtain ⟨G, m, gc, fp, h1, h2, h3, h4⟩ := hs
 exact ⟨G, m, gc, fp, h1, h2.turned hg fun r e => (hr r e).2, h3.grown hg h3.size fun k e => Nat.le_trans hB (hr k e).1, Nat.le_trans h4 hg.size⟩
theorem OweG.more {w W : World} {fix : List Item} {b M : Nat} {pre : List EntM} (h : OweG w fix b M pre W) (o : Obj) : OweG w fix b M pre (W.alloc o) := by
 obtain ⟨G, m, gc, fp, h1, h2, h3, h4⟩ := h
 exact ⟨G, m, gc, fp, h1, h2.keep ((Below.refl _ _).alloc (Nat.le_refl _) _), h3.alloc h3.size _, Nat.le_trans h4 (by simp)⟩
theorem OweG.sizes {w W : World} {fix : List Item} {b M : Nat} {pre : List EntM} (h : OweG w fix b M pre W) : w.heap.size ≤ W.heap.size ∧ M ≤ W.heap.size := by
 obtain ⟨_, _, _, _, _, _, h, h4⟩ := h
 exact ⟨h.size, h4⟩
set_option maxHeartbeats 12800000 in
theorem iOweFor_any (v0 v1 v2 v3 v4 v5 v6 v7 v8 v9 v10 v11 v12 v13 v14 v15 v16 v17 v18 : Value) (t : LogM) (w : World) (h : Rd w w.heap.size t.cells [v0, v1, v2, v3, v4, v5, v6, v7, v8, v9, v10, v11, v12, v13, v14, v15, v16, v17, v18]) (hs : t.sz ≤ 1048576) (hd : 0 ≤ t.dur ∧ t.dur ≤ 1000000) (hb : bookB t.book = true) :
    Calls Tryz.prog 87 #[.agg #[v0, v1, v2, v3, v4, v5, v6, v7, v8, v9, v10, v11, v12, v13, v14, v15, v16, v17, v18]] w (MadeAckS w (owedM t)) := by
 obtain ⟨Aa0, na0, ca0, Aa1, na1, ca1, Aa2, na2, ca2, Aa3, na3, ca3, Aa7, na7, ca7, Aa11, na11, ca11, Aa15, na15, ca15, Aa16, na16, ca16, Aa18, na18, ca18, ea0, ea1, ea2, ea3, ea4, ea5, ea6, ea7, ea8, ea9, ea10, ea11, ea12, ea13, ea14, ea15, ea16, ea17, ea18, hr0, hr1, hr2, hr4, hr5, hr7⟩ := h.logT
 subst ea0 ea1 ea2 ea3 ea4 ea5 ea6 ea7 ea8 ea9 ea10 ea11 ea12 ea13 ea14 ea15 ea16 ea17 ea18
 have hz0 : t.two.sz ≤ 1048576 := by unfold LogM.sz at hs; omega
 have hz1 : t.head.sz ≤ 1048576 := by unfold LogM.sz at hs; omega
 have hz2 : t.next.sz ≤ 1048576 := by unfold LogM.sz at hs; omega
 have hz4 : t.book.sz ≤ 1048576 := by unfold LogM.sz at hs; omega
 have hz5 : mrkSz t.seen ≤ 1048576 := by unfold LogM.sz at hs; omega
 have hz7 : oweSz t.owe ≤ 1048576 := by unfold LogM.sz at hs; omega
 have hm1 := (hr1.headL).2.2.2
 have hm2 := (hr2.headL).2.2.2
 have he4 := hr4.bookE
 have ys1 : mrkSz t.head.seen ≤ 1048576 := hz1
 have ys2 : mrkSz t.next.seen ≤ 1048576 := hz2
 have ye4 : entSz t.book.ents ≤ 1048576 := hz4
 clear h hs
 have hl20 := bookB_len hb
 have ew : IntKind.i64.wrap (t.dur + 1) = t.dur + 1 := by rw [IntKind.wrap_i64]; omega
 have hlen := sel_len t.book.ents (t.dur + 1) 2000
 have hn : na15 ≤ 1048577 := by obtain ⟨_, _, _, e, hl, _⟩ := he4.ents; injection e with e1 e2 e3; omega
 have HE := jd he4
 clear hb hd hr0 hr1 hr2 hr4 hr5 hr7 hm1 hm2 he4 hz0 hz1 hz2 hz4 hz5 hz7 ys1 ys2 ye4
 have S := Sep.nil w w.heap.size
 have c := Below.refl w.heap.size w
 replace S := S.boxAt c.size (w.heap.size) rfl #[.slice Aa0 na0 ca0, .slice Aa1 na1 ca1, .slice Aa2 na2 ca2, .slice Aa3 na3 ca3, .int .i64 t.head.num, .int .i64 t.head.base, .int .i64 t.head.tm, .slice Aa7 na7 ca7, .int .i64 t.next.num, .int .i64 t.next.base, .int .i64 t.next.tm, .slice Aa11 na11 ca11, .bool t.more, .int .i64 t.book.base, .int .i64 t.book.tm, .slice Aa15 na15 ca15, .slice Aa16 na16 ca16, .int .i64 t.dur, .slice Aa18 na18 ca18] 52
 replace c := al c S
 replace S := S.boxAt c.size (w.heap.size + 1) (by simp) #[.slice none 0 0] 50
 replace c := al c S
 refine (callsIn_wide (n := 3)).1 ?_
 refine callsIn_of_wp_marks Tryz.func87 rfl trivial ?_ rfl
 refine wpIn_wide.2 ?_
 simp only [Tryz.ntmps87, List.size_toArray, List.length_cons, List.length_nil, Nat.reduceAdd, Nat.reduceSub, Array.replicate_succ, Array.replicate_zero, List.push_toArray, List.append_toArray, List.nil_append, List.cons_append]
 have f0 := lk S 1 13 rfl rfl
 have f1 := lk S 1 14 rfl rfl
 have f2 := lk S 1 15 rfl rfl
 have f3 := lk S 1 17 rfl rfl
 go_wp2_with fail
 generalize (w.alloc (.cells #[.slice Aa0 na0 ca0, .slice Aa1 na1 ca1, .slice Aa2 na2 ca2, .slice Aa3 na3 ca3, .int .i64 t.head.num, .int .i64 t.head.base, .int .i64 t.head.tm, .slice Aa7 na7 ca7, .int .i64 t.next.num, .int .i64 t.next.base, .int .i64 t.next.tm, .slice Aa11 na11 ca11, .bool t.more, .int .i64 t.book.base, .int .i64 t.book.tm, .slice Aa15 na15 ca15, .slice Aa16 na16 ca16, .int .i64 t.dur, .slice Aa18 na18 ca18] 52)).alloc (.cells #[.slice none 0 0] 50) = w1 at *
 obtain ⟨qp, hqp⟩ : ∃ q, q = w.heap.size + 1 := ⟨_, rfl⟩
 rw [← hqp] at S ⊢
 clear hqp
 refine (iEntriesIn_any t.book.base t.book.tm _ _ _ (t.dur + 1) 2000 _).mono ?_
 rintro e w9 ⟨rfl, rfl⟩
 clear f0 f1 f2 f3
 generalize w1 = w3 at *
 replace S := S.boxAt c.size (w3.heap.size) rfl #[.int .i64 t.book.base, .int .i64 t.book.tm, .slice Aa15 na15 ca15] 49
 replace c := al c S
 replace S := S.boxAt c.size (w3.heap.size + 1) (by simp) #[.int .i64 (t.dur + 1)] 2
 replace c := al c S
 replace S := S.boxAt c.size (w3.heap.size + 1 + 1) (by simp) #[.int .i64 2000] 2
 replace c := al c S
 replace S := S.pick 3 rfl
 replace S := S.own0 (ds := [oweD []]) (vs := [.slice none 0 0]) (ow_nil_owes _)
 generalize ((w3.alloc (.cells #[.int .i64 t.book.base, .int .i64 t.book.tm, .slice Aa15 na15 ca15] 49)).alloc (.cells #[.int .i64 (t.dur + 1)] 2)).alloc (.cells #[.int .i64 2000] 2) = w8 at *
 have K0 := jd (S.at_ 4 rfl)
 have K1 := jd (S.at_ 3 rfl)
 have K2 := jd (S.at_ 2 rfl)
 have S0 := jd S
 have C0 := jd c
 have hsz : w.heap.size ≤ w8.heap.size := c.size
 clear S c
 go_wp2_with fail
 refine (wpIn_wide (n := 3)).1 ?_
 refine wpIn_rangeFunc_ownH rfl (by decide) (gf := 133) (lb := #[.pointer (some ⟨w3.heap.size, 0, none⟩), .pointer (some ⟨w3.heap.size + 1, 0, none⟩), .pointer (some ⟨w3.heap.size + 1 + 1, 0, none⟩)]) rfl trivial (enters_of Tryz.func133 (by kernel_rfl) rfl)
  (iIter_stops _ _ _ w.heap.size t.book.base t.book.tm (t.dur + 1) 2000 _ _ _ t.book.ents (KeepB w.heap.size (w3.heap.size) (w3.heap.size + 1) (w3.heap.size + 1 + 1)) (fun _ _ h => h) w8 K0.out K1.out K2.out (HE.out.keep C0.out) hn hsz) keepB_t (keepB_b hsz K0.out.lt K1.out.lt K2.out.lt) (Below.refl _ _) (fun _ => rfl)
  (OweG w [.blk (w3.heap.size + 1 + 1) #[.int .i64 2000] 2, .blk (w3.heap.size + 1) #[.int .i64 (t.dur + 1)] 2, .blk w3.heap.size #[.int .i64 t.book.base, .int .i64 t.book.tm, .slice Aa15 na15 ca15] 49, .blk w.heap.size #[.slice Aa0 na0 ca0, .slice Aa1 na1 ca1, .slice Aa2 na2 ca2, .slice Aa3 na3 ca3, .int .i64 t.head.num, .int .i64 t.head.base, .int .i64 t.head.tm, .slice Aa7 na7 ca7, .int .i64 t.next.num, .int .i64 t.next.base, .int .i64 t.next.tm, .slice Aa11 na11 ca11, .bool t.more, .int .i64 t.book.base, .int .i64 t.book.tm, .slice Aa15 na15 ca15, .slice Aa16 na16 ca16, .int .i64 t.dur, .slice Aa18 na18 ca18] 52] qp w8.heap.size)
  (fun (_ : Code) (_ : List EntM) (_ : World) => False)
  (oweG_own hsz)
  (fun _ _ _ _ _ h _ _ => h.elim)
  ⟨none, 0, 0, [], rfl, S0.out, C0.out, Nat.le_refl _⟩
  (fun y a' W => ∃ Bx, Blk W Bx #[.int .i64 y.idx, .int .i64 y.tm, .int .i64 y.cl, .int .i64 y.sq, .int .i64 y.kd, .int .i64 y.oa, .int .i64 y.ob, .int .i64 y.oc, .int .i64 y.od] 98 ∧ a' = { tmps := #[.agg #[.slice Aa0 na0 ca0, .slice Aa1 na1 ca1, .slice Aa2 na2 ca2, .slice Aa3 na3 ca3, .int .i64 t.head.num, .int .i64 t.head.base, .int .i64 t.head.tm, .slice Aa7 na7 ca7, .int .i64 t.next.num, .int .i64 t.next.base, .int .i64 t.next.tm, .slice Aa11 na11 ca11, .bool t.more, .int .i64 t.book.base, .int .i64 t.book.tm, .slice Aa15 na15 ca15, .slice Aa16 na16 ca16, .int .i64 t.dur, .slice Aa18 na18 ca18], .pointer (some ⟨w.heap.size, 0, none⟩), .slice none 0 0, .pointer (some ⟨qp, 0, none⟩), .pointer (some ⟨Bx, 0, none⟩), .pointer (some ⟨w.heap.size, 13, none⟩), .agg #[.int .i64 t.book.base, .int .i64 t.book.tm, .slice Aa15 na15 ca15], .pointer (some ⟨w.heap.size, 17, none⟩), .int .i64 t.dur, .int .i64 (t.dur + 1), .func (.func 133) #[] #[.pointer (some ⟨w3.heap.size, 0, none⟩), .pointer (some ⟨w3.heap.size + 1, 0, none⟩), .pointer (some ⟨w3.heap.size + 1 + 1, 0, none⟩)], .agg #[.int .i64 y.idx, .int .i64 y.tm, .int .i64 y.cl, .int .i64 y.sq, .int .i64 y.kd, .int .i64 y.oa, .int .i64 y.ob, .int .i64 y.oc, .int .i64 y.od], undef, undef, undef, undef, undef, undef], defers := [] })
  ?hAx ?assign ?body ?done ?stop
 case hAx =>
  rintro y a' s W W' row ⟨Bx, h1, h2⟩ hg hr
  exact ⟨Bx, ownFrom_blk (β := Unit) _ _ _ _ () W W' row h1 hg hr, h2⟩
 case assign =>
  rintro l0 pre y W K hI hK
  simp only [encE]
  gi_wp2
  exact hK _ _ ((KeepsOthers.alloc _ _).from _) (keepB_more hI.sizes.1 (Nat.lt_of_lt_of_le K0.out.lt hI.sizes.2) (Nat.lt_of_lt_of_le K1.out.lt hI.sizes.2) (Nat.lt_of_lt_of_le K2.out.lt hI.sizes.2) _) (hI.more _) ⟨W.heap.size, Blk.new _ _ _, rfl⟩
 case body =>
  rintro l0 pre y a' W hl _ ⟨G, m, gc, fp, hg, S, cI, hM⟩ ⟨Bx, hBx, rfl⟩ hlt
  have hm : m ≤ 1048577 := by
   have hg' : m = pre.length := hg
   omega
  obtain ⟨e0, e1, e2, e3, e4, e5, e6, e7, e8⟩ := y
  simp only at hBx S
  have HG := jd hg
  have HSW := jd S
  have HBX := jd hBx
  have b0 := Below.refl W.heap.size W
  have HCI := jd cI
  have c := Below.refl W.heap.size W
  have CW := jd (show Below w.heap.size W W from Below.refl _ _)
  clear hg b0 CW S0 C0 HE
  gi_wp2
  clear hBx
  refine wpIn_region_LR (fun v => v.cell? ⟨qp, 0, none⟩ = some (.slice G m gc)) 5 (by kernel_rfl) (by kernel_rfl) (fun ⟨_, _, h9⟩ => h9) ?_
  replace S := S.keep ((Below.refl _ _).drew)
  replace c := c.drew
  generalize W.drew = w1 at *
  have HF := lk S 1 0 rfl rfl
  refine tk 0 (v := ?_) rfl rfl HF (.inl ⟨by rfl, ?_⟩) ?_
  rotate_left 1
  · (rintro v a0; go_simp; try with_reducible rfl)
  try simp only [Act.put]
  have X0 : w1.cell? ⟨Bx, 0, none⟩ = some (.int .i64 e0) := (c.cell (p := ⟨Bx, 0, none⟩) HBX.out.lt).trans (HBX.out.cell 0)
  have X1 : w1.cell? ⟨Bx, 1, none⟩ = some (.int .i64 e1) := (c.cell (p := ⟨Bx, 1, none⟩) HBX.out.lt).trans (HBX.out.cell 1)
  have X2 : w1.cell? ⟨Bx, 2, none⟩ = some (.int .i64 e2) := (c.cell (p := ⟨Bx, 2, none⟩) HBX.out.lt).trans (HBX.out.cell 2)
  have X3 : w1.cell? ⟨Bx, 3, none⟩ = some (.int .i64 e3) := (c.cell (p := ⟨Bx, 3, none⟩) HBX.out.lt).trans (HBX.out.cell 3)
  have X4 : w1.cell? ⟨Bx, 4, none⟩ = some (.int .i64 e4) := (c.cell (p := ⟨Bx, 4, none⟩) HBX.out.lt).trans (HBX.out.cell 4)
  have X5 : w1.cell? ⟨Bx, 5, none⟩ = some (.int .i64 e5) := (c.cell (p := ⟨Bx, 5, none⟩) HBX.out.lt).trans (HBX.out.cell 5)
  have X6 : w1.cell? ⟨Bx, 6, none⟩ = some (.int .i64 e6) := (c.cell (p := ⟨Bx, 6, none⟩) HBX.out.lt).trans (HBX.out.cell 6)
  have X7 : w1.cell? ⟨Bx, 7, none⟩ = some (.int .i64 e7) := (c.cell (p := ⟨Bx, 7, none⟩) HBX.out.lt).trans (HBX.out.cell 7)
  have X8 : w1.cell? ⟨Bx, 8, none⟩ = some (.int .i64 e8) := (c.cell (p := ⟨Bx, 8, none⟩) HBX.out.lt).trans (HBX.out.cell 8)
  refine wpAnyL_step (i := 1) (by kernel_rfl) rfl rfl ?_
  intro K hK
  go_simp
  refine hK _ _ (fun _ => HF) ?_
  clear hK K
  try simp only [Act.put]
  clear X0 X1 X2 X3 X4 X5 X6 X7 X8
  refine wpAnyL_step (i := 2) (by kernel_rfl) rfl rfl ?_
  intro K hK
  go_simp
  refine (iAckOf_any e0 e1 e2 e3 e4 e5 e6 e7 e8 _).mono ?_
  rintro e w2 ⟨rfl, b⟩
  replace c := c.trans (b.mono c.size)
  replace S := S.keep b
  clear b
  obtain ⟨k0, hk0⟩ : ∃ q, q = (ackM (⟨e0, e1, e2, e3, e4, e5, e6, e7, e8⟩ : EntM)).cl := ⟨_, rfl⟩
  obtain ⟨k1, hk1⟩ : ∃ q, q = (ackM (⟨e0, e1, e2, e3, e4, e5, e6, e7, e8⟩ : EntM)).sq := ⟨_, rfl⟩
  obtain ⟨k2, hk2⟩ : ∃ q, q = (ackM (⟨e0, e1, e2, e3, e4, e5, e6, e7, e8⟩ : EntM)).ix := ⟨_, rfl⟩
  obtain ⟨k3, hk3⟩ : ∃ q, q = (ackM (⟨e0, e1, e2, e3, e4, e5, e6, e7, e8⟩ : EntM)).last := ⟨_, rfl⟩
  rw [← hk0, ← hk1, ← hk2, ← hk3]
  have HKK := jd (show ackM (⟨e0, e1, e2, e3, e4, e5, e6, e7, e8⟩ : EntM) = ⟨k0, k1, k2, k3⟩ by rw [hk0, hk1, hk2, hk3])
  clear hk0 hk1 hk2 hk3
  clear HF
  have HF := lk S 1 0 rfl rfl
  refine hK _ _ (fun _ => HF) ?_
  clear hK K
  try simp only [Act.put]
  refine wpAnyL_step (i := 3) (by kernel_rfl) rfl rfl ?_
  intro K hK
  go_simp
  replace S := S.boxAt (Nat.le_trans HCI.out.size c.size) (w2.heap.size) rfl #[.int .i64 k0, .int .i64 k1, .int .i64 k2, .int .i64 k3] 116
  replace c := c.alloc c.size (.cells #[.int .i64 k0, .int .i64 k1, .int .i64 k2, .int .i64 k3] 116)
  clear HF
  have HF := lk S 2 0 rfl rfl
  refine hK _ _ (fun _ => HF) ?_
  clear hK K
  try simp only [Act.put]
  generalize hw : w2.alloc (.cells #[.int .i64 k0, .int .i64 k1, .int .i64 k2, .int .i64 k3] 116) = w3 at *
  clear hw
  obtain ⟨qo, hqo⟩ : ∃ q, q = w2.heap.size := ⟨_, rfl⟩
  rw [← hqo] at S ⊢
  clear hqo
  have HC : ∀ i, i < 4 → w3.cell? ⟨qo, i, none⟩ = [Value.int .i64 k0, Value.int .i64 k1, Value.int .i64 k2, Value.int .i64 k3][i]? := fun i hi => by
   have h1 := (S.at_ 0 rfl).cell i
   rw [h1]
   simp
  replace S := (S.tail).own0 (ds := oweC ⟨k0, k1, k2, k3⟩) (vs := [.int .i64 k0, .int .i64 k1, .int .i64 k2, .int .i64 k3]) (.int (.int (.int (.int (.nil)))))
  replace S := S.swap
  have HK1 := jd (keeps_below c)
  have HCB := jd c
  refine wpAnyL_step (i := 4) (by kernel_rfl) rfl rfl ?_
  intro K hK
  refine wp_append_elem (l := pre.map ackM) (y := (⟨k0, k1, k2, k3⟩ : AckM)) _ _ (by rfl) Tryz.underlying50 infoAck (by rfl) (by decide) oweC_len (by rfl) (S.own_ 0 rfl) (S.nodup_own 0 rfl) (by rfl) HC (S.own_ 1 rfl) (S.nodup_own 1 rfl) S.apart (by omega) (by omega) ?_
  intro A3 c3 w4 fp3 o3 n3 s3 t3
  have HK2 := jd (HK1.out.trans (keeps_own t3 (S.own_ 0 rfl)))
  have hw9 : w.heap.size ≤ w3.heap.size := Nat.le_trans HCI.out.size c.size
  have CB2 := jd ((HCB.out.mono HCI.out.size).trans (S.below 0 rfl t3 hw9))
  have S' := S.merge t3 o3 n3 s3 hw9
  clear S; have S := S'; clear S' o3 n3 s3 HC c
  have hFx := lk S 1 0 rfl rfl
  have hFf := (S.at_ 1 rfl).free 0
  clear HF
  refine hK _ _ (fun _ => hFx) ?_
  clear hK K t3
  try simp only [Act.put]
  refine wpAnyL_step (i := 5) (by kernel_rfl) rfl rfl ?_
  intro K hK
  go_simp
  refine hK _ _ (fun h => nomatch (show true = false from h)) ?_
  clear hK K
  try simp only [Act.put]
  refine wpAnyL_done (by kernel_rfl) ?_ _
  have S4 := S.put 1 rfl 0 (.slice A3 (m + 1) c3)
  have HS := jd S4
  have HK := jd (HK2.out.trans (KeepsOthers.setCell w4 ⟨qp, 0, none⟩ (.slice A3 (m + 1) c3)))
  have HQ := jd (CB2.out.setCell (p := ⟨qp, 0, none⟩) (HSW.out.base_le 1 rfl) (.slice A3 (m + 1) c3))
  have hln : (pre ++ [(⟨e0, e1, e2, e3, e4, e5, e6, e7, e8⟩ : EntM)]).length = m + 1 := by rw [HG.out, List.length_append, List.length_singleton]
  have hmp : (pre ++ [(⟨e0, e1, e2, e3, e4, e5, e6, e7, e8⟩ : EntM)]).map ackM = pre.map ackM ++ [⟨k0, k1, k2, k3⟩] := by rw [List.map_append, List.map_singleton, HKK.out]
  go_wp2
  exact ⟨HK.out.from _, ⟨HQ.out, (HS.out.at_ 4 rfl).trans (HSW.out.at_ 4 rfl).symm, (HS.out.at_ 3 rfl).trans (HSW.out.at_ 3 rfl).symm, (HS.out.at_ 2 rfl).trans (HSW.out.at_ 2 rfl).symm⟩, A3, m + 1, c3, fp3, hln.symm, by rw [hmp]; exact HS.out, HCI.out.trans HQ.out, Nat.le_trans hM HK.out.size⟩
 case done =>
  rintro D ys W hD rfl ⟨G, m, gc, fp, hg, S, cI, hM⟩ hK
  have f0 := lk S 1 0 rfl rfl
  have HS := jd (S.putObj (.deferred none) hK rfl).first
  have HC := jd (below_shut cI (Nat.le_trans hsz hD) hK)
  have HK := jd hK
  have HG := jd hg
  clear S cI hK hg S0 C0 K0 K1 K2
  go_wp2
  exact postM_ret1 (v := .slice G m gc) rfl HK.out (by simp [results, Tryz.results87, go_sem]) ⟨G, m, gc, rfl, HS.out, HC.out⟩
 case stop =>
  rintro D c' pre W hD ⟨hp, _⟩ h hK
  exact h.elim
end Go.Proofs.YthjjdelpdiipdaaGreatDoor

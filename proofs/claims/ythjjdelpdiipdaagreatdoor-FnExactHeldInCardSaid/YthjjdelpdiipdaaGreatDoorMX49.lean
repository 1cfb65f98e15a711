/- Parts of my texts: LogSH LogIH LogZHeldIn OpenG OpenR OpenEnt OpenLet KO. -/
import Derived.Test.YthjjdelpdiipdaaGreatDoorMX48
import Derived.ChangeArms
import Derived.ProofKit
namespace Go.Proofs.YthjjdelpdiipdaaGreatDoor
set_option maxRecDepth 100000
set_option linter.unusedVariables false
open Go.RowKit
theorem sel_from1 {b : BookM} (h : bookB b = true) (d : Int) : selE b.ents 1 d = selE b.ents (b.base + 1) d := by
 have h0 := ((bookB_iff b).1 h).1
 unfold selE
 apply List.filter_congr
 intro x hx
 obtain ⟨j, hj, rfl⟩ := List.getElem_of_mem hx
 have h1 := book_idx h j hj
 unfold inE
 rw [decide_eq_true (show (1 : Int) ≤ b.ents[j].idx by omega), decide_eq_true (show b.base + 1 ≤ b.ents[j].idx by omega)]
theorem heldM_sz (t : LogM) : entSz (heldM t) ≤ 1048577 := by
 cases hk : logB t
 case false =>
  unfold heldM
  rw [hk, if_neg (by decide)]
  exact Nat.zero_le _
 case true =>
  have h20 := bookB_len ((logB_iff t).1 hk).2.2.1
  have hs := sel_len t.book.ents (t.book.base + 1) t.dur
  unfold heldM
  rw [hk, if_pos rfl]
  unfold entSz
  omega
set_option maxHeartbeats 6400000 in
theorem sHeldIn_any (v0 v1 v2 v3 v4 v5 v6 v7 v8 v9 v10 v11 v12 v13 v14 v15 v16 v17 v18 : Value) (t : LogM) (w : World) (h : Rd w w.heap.size t.cells [v0, v1, v2, v3, v4, v5, v6, v7, v8, v9, v10, v11, v12, v13, v14, v15, v16, v17, v18]) (hs : t.sz ≤ 1048576) : Calls Tryz.prog 11 #[.agg #[v0, v1, v2, v3, v4, v5, v6, v7, v8, v9, v10, v11, v12, v13, v14, v15, v16, v17, v18]] w (MadeEntryS w (heldM t)) := by
 have HH := jd h
 have HZ := jd hs
 obtain ⟨Aa0, na0, ca0, Aa1, na1, ca1, Aa2, na2, ca2, Aa3, na3, ca3, Aa7, na7, ca7, Aa11, na11, ca11, Aa15, na15, ca15, Aa16, na16, ca16, Aa18, na18, ca18, ea0, ea1, ea2, ea3, ea4, ea5, ea6, ea7, ea8, ea9, ea10, ea11, ea12, ea13, ea14, ea15, ea16, ea17, ea18, hr0, hr1, hr2, hr4, hr5, hr7⟩ := h.logT
 subst ea0 ea1 ea2 ea3 ea4 ea5 ea6 ea7 ea8 ea9 ea10 ea11 ea12 ea13 ea14 ea15 ea16 ea17 ea18
 have hz0 : t.two.sz ≤ 1048576 := by unfold LogM.sz at hs; omega
 have hz1 : t.head.sz ≤ 1048576 := by unfold LogM.sz at hs; omega
 have hz2 : t.next.sz ≤ 1048576 := by unfold LogM.sz at hs; omega
 have hz4 : t.book.sz ≤ 1048576 := by unfold LogM.sz at hs; omega
 have hz5 : mrkSz t.seen ≤ 1048576 := by unfold LogM.sz at hs; omega
 have hz7 : oweSz t.owe ≤ 1048576 := by unfold LogM.sz at hs; omega
 have hm1 := (hr1.headL).2.2.2
 have hm2 := (hr2.headL).2.2.2
 have he4 := hr4.bookE
 have ys1 : mrkSz t.head.seen ≤ 1048576 := hz1
 have ys2 : mrkSz t.next.seen ≤ 1048576 := hz2
 have ye4 : entSz t.book.ents ≤ 1048576 := hz4
 clear h hs
 have S := Sep.nil w w.heap.size
 have c := Below.refl w.heap.size w
 replace S := S.boxAt c.size (w.heap.size) rfl #[.slice Aa0 na0 ca0, .slice Aa1 na1 ca1, .slice Aa2 na2 ca2, .slice Aa3 na3 ca3, .int .i64 t.head.num, .int .i64 t.head.base, .int .i64 t.head.tm, .slice Aa7 na7 ca7, .int .i64 t.next.num, .int .i64 t.next.base, .int .i64 t.next.tm, .slice Aa11 na11 ca11, .bool t.more, .int .i64 t.book.base, .int .i64 t.book.tm, .slice Aa15 na15 ca15, .slice Aa16 na16 ca16, .int .i64 t.dur, .slice Aa18 na18 ca18] 52
 replace c := al c S
 go_enter Tryz.func11, Tryz.ntmps11
 have hb_a := S.at_ 0 rfl
 go_wp2_with (first | (refine wpList_load_box rfl 52 _ (by rfl) (w.heap.size) (by rfl) _ _ hb_a _ Tryz.underlying52 (by rfl) (by kernel_rfl) ?_))
 generalize w.alloc (.cells #[.slice Aa0 na0 ca0, .slice Aa1 na1 ca1, .slice Aa2 na2 ca2, .slice Aa3 na3 ca3, .int .i64 t.head.num, .int .i64 t.head.base, .int .i64 t.head.tm, .slice Aa7 na7 ca7, .int .i64 t.next.num, .int .i64 t.next.base, .int .i64 t.next.tm, .slice Aa11 na11 ca11, .bool t.more, .int .i64 t.book.base, .int .i64 t.book.tm, .slice Aa15 na15 ca15, .slice Aa16 na16 ca16, .int .i64 t.dur, .slice Aa18 na18 ca18] 52) = w1 at *
 refine (sLogOk_any _ _ _ _ _ _ _ _ _ _ _ _ _ _ _ _ _ _ _ t _ ((HH.out.keep c).up c.size) HZ.out).mono ?_
 rintro e w2 ⟨rfl, b⟩
 replace c := c.trans (b.mono c.size)
 replace S := S.keep b
 clear b hb_a
 cases hk : logB t
 case false =>
  have HV := jd (show heldM t = [] by unfold heldM; rw [hk, if_neg (by decide)])
  replace S := S.boxAt c.size (w2.heap.size) rfl #[] 98
  replace c := al c S
  replace S := S.blk0 (k := 9) (f := entC)
  have H := jd S.first
  have CC := jd c
  clear S c
  go_wp2
  go_ret
  exact ⟨_, _, _, rfl, by rw [HV.out]; exact H.out, CC.out⟩
 case true =>
  have hbk := ((logB_iff t).1 hk).2.2.1
  have HX := jd ((bookB_iff t.book).1 hbk).1
  have HN20 := jd (show na15 ≤ 1048576 by obtain ⟨_, _, _, e, hl, _⟩ := he4.ents; injection e with e1 e2 e3; have := bookB_len hbk; omega)
  have HV := jd (show heldM t = selE t.book.ents 1 t.dur by unfold heldM; rw [hk, if_pos rfl, sel_from1 hbk])
  clear hk hbk
  have f0 := lk S 0 13 rfl rfl
  have f1 := lk S 0 14 rfl rfl
  have f2 := lk S 0 15 rfl rfl
  have f3 := lk S 0 17 rfl rfl
  go_wp2_with fail
  refine (sPart12_any t.book.base t.book.tm _ _ _ w.heap.size t.book.ents 1 t.dur _ (he4.keep c) c.size (Nat.le_trans ye4 (by decide))).mono ?_
  rintro e w3 ⟨A2, n2, c2, rfl, o, b⟩
  obtain ⟨fp_bk, S'⟩ := S.has b o c.size
  replace c := c.trans (b.mono c.size)
  clear S; have S := S'; clear S' o b f0 f1 f2 f3
  have H := jd S.first
  have CC := jd c
  clear S c
  go_wp2
  go_ret
  exact ⟨_, _, _, rfl, by rw [HV.out]; exact H.out, CC.out⟩
theorem has_nil_ents (w : World) (base : Nat) : Has w base [entD []] [.slice none 0 0] := ⟨[], ow_nil_ents w, List.nodup_nil, fun _ h => nomatch h⟩
set_option maxHeartbeats 6400000 in
theorem iHeldIn_any (v0 v1 v2 v3 v4 v5 v6 v7 v8 v9 v10 v11 v12 v13 v14 v15 v16 v17 v18 : Value) (t : LogM) (w : World) (h : Rd w w.heap.size t.cells [v0, v1, v2, v3, v4, v5, v6, v7, v8, v9, v10, v11, v12, v13, v14, v15, v16, v17, v18]) (hs : t.sz ≤ 1048576) (old : Value) (hv : VarIs 0 old w) : Calls Tryz.prog 12 #[.agg #[v0, v1, v2, v3, v4, v5, v6, v7, v8, v9, v10, v11, v12, v13, v14, v15, v16, v17, v18]] w (MadeEntryS w (heldM t)) := by
 have HH := jd h
 have HZ := jd hs
 have HVV := jd hv
 clear hv
 obtain ⟨Aa0, na0, ca0, Aa1, na1, ca1, Aa2, na2, ca2, Aa3, na3, ca3, Aa7, na7, ca7, Aa11, na11, ca11, Aa15, na15, ca15, Aa16, na16, ca16, Aa18, na18, ca18, ea0, ea1, ea2, ea3, ea4, ea5, ea6, ea7, ea8, ea9, ea10, ea11, ea12, ea13, ea14, ea15, ea16, ea17, ea18, hr0, hr1, hr2, hr4, hr5, hr7⟩ := h.logT
 subst ea0 ea1 ea2 ea3 ea4 ea5 ea6 ea7 ea8 ea9 ea10 ea11 ea12 ea13 ea14 ea15 ea16 ea17 ea18
 have hz0 : t.two.sz ≤ 1048576 := by unfold LogM.sz at hs; omega
 have hz1 : t.head.sz ≤ 1048576 := by unfold LogM.sz at hs; omega
 have hz2 : t.next.sz ≤ 1048576 := by unfold LogM.sz at hs; omega
 have hz4 : t.book.sz ≤ 1048576 := by unfold LogM.sz at hs; omega
 have hz5 : mrkSz t.seen ≤ 1048576 := by unfold LogM.sz at hs; omega
 have hz7 : oweSz t.owe ≤ 1048576 := by unfold LogM.sz at hs; omega
 have hm1 := (hr1.headL).2.2.2
 have hm2 := (hr2.headL).2.2.2
 have he4 := hr4.bookE
 have ys1 : mrkSz t.head.seen ≤ 1048576 := hz1
 have ys2 : mrkSz t.next.seen ≤ 1048576 := hz2
 have ye4 : entSz t.book.ents ≤ 1048576 := hz4
 clear h hs
 have S := Sep.nil w w.heap.size
 have c := Below.refl w.heap.size w
 replace S := S.boxAt c.size (w.heap.size) rfl #[.slice Aa0 na0 ca0, .slice Aa1 na1 ca1, .slice Aa2 na2 ca2, .slice Aa3 na3 ca3, .int .i64 t.head.num, .int .i64 t.head.base, .int .i64 t.head.tm, .slice Aa7 na7 ca7, .int .i64 t.next.num, .int .i64 t.next.base, .int .i64 t.next.tm, .slice Aa11 na11 ca11, .bool t.more, .int .i64 t.book.base, .int .i64 t.book.tm, .slice Aa15 na15 ca15, .slice Aa16 na16 ca16, .int .i64 t.dur, .slice Aa18 na18 ca18] 52
 replace c := al c S
 go_enter Tryz.func12, Tryz.ntmps12
 have hb_a := S.at_ 0 rfl
 go_wp2_with (first | (refine wpList_load_box rfl 52 _ (by rfl) (w.heap.size) (by rfl) _ _ hb_a _ Tryz.underlying52 (by rfl) (by kernel_rfl) ?_))
 generalize w.alloc (.cells #[.slice Aa0 na0 ca0, .slice Aa1 na1 ca1, .slice Aa2 na2 ca2, .slice Aa3 na3 ca3, .int .i64 t.head.num, .int .i64 t.head.base, .int .i64 t.head.tm, .slice Aa7 na7 ca7, .int .i64 t.next.num, .int .i64 t.next.base, .int .i64 t.next.tm, .slice Aa11 na11 ca11, .bool t.more, .int .i64 t.book.base, .int .i64 t.book.tm, .slice Aa15 na15 ca15, .slice Aa16 na16 ca16, .int .i64 t.dur, .slice Aa18 na18 ca18] 52) = w1 at *
 refine (iLogOk_any _ _ _ _ _ _ _ _ _ _ _ _ _ _ _ _ _ _ _ t _ ((HH.out.keep c).up c.size) HZ.out old (VarIs.stays w _ HVV.out c)).mono ?_
 rintro e w2 ⟨rfl, b⟩
 replace c := c.trans (b.mono c.size)
 replace S := S.keep b
 clear b hb_a
 cases hk : logB t
 case false =>
  have HV := jd (show heldM t = [] by unfold heldM; rw [hk, if_neg (by decide)])
  have CC := jd c
  clear S c
  go_wp2
  go_ret
  exact ⟨none, 0, 0, rfl, by rw [HV.out]; exact has_nil_ents _ _, CC.out⟩
 case true =>
  have hbk := ((logB_iff t).1 hk).2.2.1
  have HX := jd ((bookB_iff t.book).1 hbk).1
  have HN20 := jd (show na15 ≤ 1048576 by obtain ⟨_, _, _, e, hl, _⟩ := he4.ents; injection e with e1 e2 e3; have := bookB_len hbk; omega)
  have HV := jd (show heldM t = selE t.book.ents (t.book.base + 1) t.dur by unfold heldM; rw [hk, if_pos rfl])
  clear hk hbk
  have f0 := lk S 0 13 rfl rfl
  have f1 := lk S 0 14 rfl rfl
  have f2 := lk S 0 15 rfl rfl
  have f3 := lk S 0 17 rfl rfl
  go_wp2_with fail
  refine (iBookTo_any t.book.base t.book.tm _ _ _ w.heap.size t.book.ents t.dur _ (he4.keep c) c.size (Nat.le_trans ye4 (by decide)) HN20.out HX.out).mono ?_
  rintro e w3 ⟨A2, n2, c2, rfl, o, b⟩
  obtain ⟨fp_bk, S'⟩ := S.has b o c.size
  replace c := c.trans (b.mono c.size)
  clear S; have S := S'; clear S' o b f0 f1 f2 f3
  have hfd : ∀ w9, (Instr.field 49 (.agg #[.int .i64 t.book.base, .int .i64 t.book.tm, .slice A2 n2 c2]) 2).run Tryz.prog w9 = .ok (.slice A2 n2 c2) w9 := fun _ => by kernel_rfl
  have H := jd S.first
  have CC := jd c
  clear S c
  go_wp2
  go_ret
  exact ⟨_, _, _, rfl, by rw [HV.out]; exact H.out, CC.out⟩
theorem sHeldIn_at (Aa0_0 : Option Addr) (na0_0 ca0_0 : Nat) (Aa0_1 : Option Addr) (na0_1 ca0_1 : Nat) (Aa0_2 : Option Addr) (na0_2 ca0_2 : Nat) (Aa0_3 : Option Addr) (na0_3 ca0_3 : Nat) (xa0_4 : Int) (xa0_5 : Int) (xa0_6 : Int) (Aa0_7 : Option Addr) (na0_7 ca0_7 : Nat) (xa0_8 : Int) (xa0_9 : Int) (xa0_10 : Int) (Aa0_11 : Option Addr) (na0_11 ca0_11 : Nat) (ya0_12 : Bool) (xa0_13 : Int) (xa0_14 : Int) (Aa0_15 : Option Addr) (na0_15 ca0_15 : Nat) (Aa0_16 : Option Addr) (na0_16 ca0_16 : Nat) (xa0_17 : Int) (Aa0_18 : Option Addr) (na0_18 ca0_18 : Nat) (d0 : LogM) (w : World) (h : Rd w w.heap.size (d0.cells) [.slice Aa0_0 na0_0 ca0_0, .slice Aa0_1 na0_1 ca0_1, .slice Aa0_2 na0_2 ca0_2, .slice Aa0_3 na0_3 ca0_3, .int .i64 xa0_4, .int .i64 xa0_5, .int .i64 xa0_6, .slice Aa0_7 na0_7 ca0_7, .int .i64 xa0_8, .int .i64 xa0_9, .int .i64 xa0_10, .slice Aa0_11 na0_11 ca0_11, .bool ya0_12, .int .i64 xa0_13, .int .i64 xa0_14, .slice Aa0_15 na0_15 ca0_15, .slice Aa0_16 na0_16 ca0_16, .int .i64 xa0_17, .slice Aa0_18 na0_18 ca0_18]) (hs : d0.sz ≤ 1048576) : Calls Tryz.prog 11 #[.agg #[.slice Aa0_0 na0_0 ca0_0, .slice Aa0_1 na0_1 ca0_1, .slice Aa0_2 na0_2 ca0_2, .slice Aa0_3 na0_3 ca0_3, .int .i64 xa0_4, .int .i64 xa0_5, .int .i64 xa0_6, .slice Aa0_7 na0_7 ca0_7, .int .i64 xa0_8, .int .i64 xa0_9, .int .i64 xa0_10, .slice Aa0_11 na0_11 ca0_11, .bool ya0_12, .int .i64 xa0_13, .int .i64 xa0_14, .slice Aa0_15 na0_15 ca0_15, .slice Aa0_16 na0_16 ca0_16, .int .i64 xa0_17, .slice Aa0_18 na0_18 ca0_18]] w (fun e w' => ∃ (Ar0_0 : Option Addr) (nr0_0 cr0_0 : Nat), e = .returned (.slice Ar0_0 nr0_0 cr0_0) ∧ Has w' w.heap.size ([entD (heldM d0)]) [.slice Ar0_0 nr0_0 cr0_0] ∧ Below w.heap.size w w') :=
 sHeldIn_any _ _ _ _ _ _ _ _ _ _ _ _ _ _ _ _ _ _ _ d0 w h hs
theorem iHeldIn_at (old : Value) (Aa0_0 : Option Addr) (na0_0 ca0_0 : Nat) (Aa0_1 : Option Addr) (na0_1 ca0_1 : Nat) (Aa0_2 : Option Addr) (na0_2 ca0_2 : Nat) (Aa0_3 : Option Addr) (na0_3 ca0_3 : Nat) (xa0_4 : Int) (xa0_5 : Int) (xa0_6 : Int) (Aa0_7 : Option Addr) (na0_7 ca0_7 : Nat) (xa0_8 : Int) (xa0_9 : Int) (xa0_10 : Int) (Aa0_11 : Option Addr) (na0_11 ca0_11 : Nat) (ya0_12 : Bool) (xa0_13 : Int) (xa0_14 : Int) (Aa0_15 : Option Addr) (na0_15 ca0_15 : Nat) (Aa0_16 : Option Addr) (na0_16 ca0_16 : Nat) (xa0_17 : Int) (Aa0_18 : Option Addr) (na0_18 ca0_18 : Nat) (d0 : LogM) (w : World) (h : Rd w w.heap.size (d0.cells) [.slice Aa0_0 na0_0 ca0_0, .slice Aa0_1 na0_1 ca0_1, .slice Aa0_2 na0_2 ca0_2, .slice Aa0_3 na0_3 ca0_3, .int .i64 xa0_4, .int .i64 xa0_5, .int .i64 xa0_6, .slice Aa0_7 na0_7 ca0_7, .int .i64 xa0_8, .int .i64 xa0_9, .int .i64 xa0_10, .slice Aa0_11 na0_11 ca0_11, .bool ya0_12, .int .i64 xa0_13, .int .i64 xa0_14, .slice Aa0_15 na0_15 ca0_15, .slice Aa0_16 na0_16 ca0_16, .int .i64 xa0_17, .slice Aa0_18 na0_18 ca0_18]) (hs : d0.sz ≤ 1048576) (hv : VarIs 0 old w) : Calls Tryz.prog 12 #[.agg #[.slice Aa0_0 na0_0 ca0_0, .slice Aa0_1 na0_1 ca0_1, .slice Aa0_2 na0_2 ca0_2, .slice Aa0_3 na0_3 ca0_3, .int .i64 xa0_4, .int .i64 xa0_5, .int .i64 xa0_6, .slice Aa0_7 na0_7 ca0_7, .int .i64 xa0_8, .int .i64 xa0_9, .int .i64 xa0_10, .slice Aa0_11 na0_11 ca0_11, .bool ya0_12, .int .i64 xa0_13, .int .i64 xa0_14, .slice Aa0_15 na0_15 ca0_15, .slice Aa0_16 na0_16 ca0_16, .int .i64 xa0_17, .slice Aa0_18 na0_18 ca0_18]] w (fun e w' => ∃ (Ar0_0 : Option Addr) (nr0_0 cr0_0 : Nat), e = .returned (.slice Ar0_0 nr0_0 cr0_0) ∧ Has w' w.heap.size ([entD (heldM d0)]) [.slice Ar0_0 nr0_0 cr0_0] ∧ Below w.heap.size w w') :=
 iHeldIn_any _ _ _ _ _ _ _ _ _ _ _ _ _ _ _ _ _ _ _ d0 w h hs old hv
def Opens (P : Program) (t : TypeId) (k : Nat) (S : List Dat → Prop) : Prop :=
 P.cellsOf t = k ∧ ∀ (H : Type) (enc : TypeId × Value → H) (w : World) (base : Nat) (spare : Nat → Bool) (held : Bool) (fuel : Nat) (cs : List Value) (x : DataW H × List MemPlace),
  DataW.trod enc P w base spare held fuel t cs = some x → cs.length = k ∧ ∃ ds, S ds ∧ Rd w w.heap.size ds cs
def OpensF (P : Program) (fs : List Field) (off k : Nat) (S : List Dat → Prop) : Prop :=
 ∀ (H : Type) (enc : TypeId × Value → H) (w : World) (base : Nat) (spare : Nat → Bool) (held : Bool) (fuel : Nat) (cs : List Value),
  off + k ≤ cs.length → (∀ f ∈ fs, ∃ x, DataW.trod enc P w base spare held fuel f.type ((cs.drop f.offset).take (P.cellsOf f.type)) = some x) →
  ∃ ds, S ds ∧ Rd w w.heap.size ds ((cs.drop off).take k)
section
variable {P : Program} {t : TypeId}
theorem opens_int (ht : P.underlying t = some (.int .i64)) (hc : P.cellsOf t = 1) : Opens P t 1 (fun ds => ∃ n : Int, ds = [.int n] ∧ (Lit.int .i64 n).wf = true) := by
 refine ⟨hc, fun H enc w base spare held fuel cs x h => ?_⟩
 obtain ⟨n, rfl, _, hw⟩ := DataW.trod_int ht h
 exact ⟨rfl, _, ⟨n, rfl, hw⟩, .int .nil⟩
theorem opens_bool (ht : P.underlying t = some .bool) (hc : P.cellsOf t = 1) : Opens P t 1 (fun ds => ∃ b : Bool, ds = [.bool b]) := by
 refine ⟨hc, fun H enc w base spare held fuel cs x h => ?_⟩
 obtain ⟨b, rfl, _⟩ := DataW.trod_bool ht h
 exact ⟨rfl, _, ⟨b, rfl⟩, .bool .nil⟩
theorem cells_at {w : World} {base k : Nat} {a : Addr} {ci : List Value} (h : w.cells? base a k = some ci) : ci.length = k ∧ ∀ i, i < k → w.cell? (a.add i) = ci[i]? := by
 unfold World.cells? at h
 split at h
 · refine ⟨by simpa using mapM_some_length h, fun i hi => mapM_some_get h i i (by simp [hi])⟩
 · cases h
theorem add_add (a : Addr) (m n : Nat) (h : a.spot = none) : (a.add m).add n = ⟨a.block, a.off + (m + n), none⟩ := by
 obtain ⟨b, o, s⟩ := a
 subst h
 unfold Addr.add
 by_cases hm : m = 0
 · subst hm
   by_cases hn : n = 0
   · subst hn; rfl
   · simp [hn]
 · by_cases hn : n = 0
   · subst hn; simp [hm]
   · simp [hm, hn, Nat.add_assoc]
theorem spot_none {w : World} {a : Addr} {v : Value} (h : w.cell? a = some v) : a.spot = none := by
 unfold World.cell? at h
 split at h
 · cases hs : a.spot with
   | none => rfl
   | some s => simp [hs] at h
 · cases h
theorem opens_slice {α : Type} {f : α → List Dat} {e e' : TypeId} {k : Nat} (ht : P.underlying t = some (.slice e)) (he : Opens P e k (fun ds => ∃ x, ds = f x)) (k0 : 0 < k) (hk : ∀ x, (f x).length = k) (hc : P.cellsOf t = 1) :
    Opens P t 1 (fun ds => ∃ l : List α, ds = [lst e' k f l]) := by
 refine ⟨hc, fun H enc w base spare held fuel cs x h => ?_⟩
 rcases DataW.trod_slice ht h with ⟨rfl, _⟩ | ⟨a, len, cap, elems, rest, n, _, rfl, _, _, hl, hm, hel, hall, _⟩
 · exact ⟨rfl, _, ⟨[], rfl⟩, .row (n := 0) (us := []) (by simp) (Nat.le_refl _) (Nat.zero_le _) (fun h => absurd h (by omega)) .nil .nil⟩
 · rw [he.1] at hall
   have each : ∀ i, i < len → ∃ (y : α) (ci : List Value), ci.length = k ∧ Rd w w.heap.size (f y) ci ∧ ∀ q, q < k → w.cell? ((a.add (i * k)).add q) = ci[q]? := by
    intro i hi
    have h1 := hall i hi
    rw [List.getElem?_eq_getElem (by omega), Option.bind_eq_some_iff] at h1
    obtain ⟨ci, h2, h3⟩ := h1
    obtain ⟨hlen, ds, ⟨y, rfl⟩, hr⟩ := he.2 H enc w base spare held n ci _ h3
    exact ⟨y, ci, hlen, hr, (cells_at h2).2⟩
   have gath : ∀ m, m ≤ len → ∃ (l : List α) (us : List Value), l.length = m ∧ us.length = m * k ∧ Rd w w.heap.size (l.flatMap f) us ∧ ∀ i, i < m → ∀ q, q < k → w.cell? ((a.add (i * k)).add q) = us[i * k + q]? := by
    intro m
    induction m with
    | zero => intro _; exact ⟨[], [], rfl, by simp, .nil, fun i hi => absurd hi (by omega)⟩
    | succ m ih =>
     intro hm
     obtain ⟨l, us, h1, h2, h3, h4⟩ := ih (by omega)
     obtain ⟨y, ci, h5, h6, h7⟩ := each m (by omega)
     refine ⟨l ++ [y], us ++ ci, by simp [h1], by rw [List.length_append, h2, h5, Nat.add_mul, Nat.one_mul], ?_, fun i hi q hq => ?_⟩
     · have := h3.append h6
       simpa using this
     · by_cases him : i < m
       · rw [h4 i him q hq, List.getElem?_append_left]
         have : (i + 1) * k ≤ m * k := Nat.mul_le_mul_right k (by omega)
         rw [Nat.add_mul, Nat.one_mul] at this
         omega
       · have : i = m := by omega
         subst this
         rw [h7 q hq, List.getElem?_append_right (by omega), h2, Nat.add_sub_cancel_left]
   obtain ⟨l, us, h1, h2, h3, h4⟩ := gath len (Nat.le_refl _)
   refine ⟨rfl, _, ⟨l, rfl⟩, .row (us := us) (by rw [flatMap_len hk, h1]) hl hm (fun hn => ?_) h3 .nil⟩
   have h5 := h4 0 hn 0 k0
   have hus : 0 * k + 0 < us.length := by rw [h2, Nat.zero_mul]; exact Nat.mul_pos hn k0
   rw [List.getElem?_eq_getElem hus] at h5
   have hs : a.spot = none := by
    have := spot_none h5
    simpa [Addr.add] using this
   refine ⟨a.block, a.off, ?_, ?_, fun j hj => ?_⟩
   · obtain ⟨b, o, s⟩ := a
     simp only at hs
     subst hs
     rfl
   · have := World.block_lt_of_cell? w _ h5
     simpa [Addr.add] using this
   · have hdm : j / k < len := Nat.div_lt_of_lt_mul (by rw [Nat.mul_comm]; exact hj)
     have h6 := h4 (j / k) hdm (j % k) (Nat.mod_lt _ k0)
     rw [add_add _ _ _ hs] at h6
     have e : j / k * k + j % k = j := by rw [Nat.mul_comm]; exact Nat.div_add_mod j k
     rw [e] at h6
     exact h6
theorem opensF_nil (off : Nat) : OpensF P [] off 0 (fun ds => ds = []) := fun H enc w base spare held fuel cs _ _ => ⟨[], rfl, by simp; exact .nil⟩
theorem opensF_cons {f : Field} {fs : List Field} {off k1 k2 : Nat} {S1 S2 : List Dat → Prop} (ho : f.offset = off) (h1 : Opens P f.type k1 S1) (h2 : OpensF P fs (off + k1) k2 S2) :
    OpensF P (f :: fs) off (k1 + k2) (fun ds => ∃ d1 d2, S1 d1 ∧ S2 d2 ∧ ds = d1 ++ d2) := by
 intro H enc w base spare held fuel cs hl hall
 obtain ⟨x, hx⟩ := hall f (by simp)
 rw [h1.1, ho] at hx
 obtain ⟨_, d1, s1, r1⟩ := h1.2 H enc w base spare held fuel _ x hx
 obtain ⟨d2, s2, r2⟩ := h2 H enc w base spare held fuel cs (by omega) (fun g hg => hall g (by simp [hg]))
 refine ⟨d1 ++ d2, ⟨d1, d2, s1, s2, rfl⟩, ?_⟩
 have e : (cs.drop off).take (k1 + k2) = (cs.drop off).take k1 ++ (cs.drop (off + k1)).take k2 := by
  rw [List.take_add, List.drop_drop]
 rw [e]
 exact r1.append r2
theorem opens_struct {fs : Array Field} {k : Nat} {S : List Dat → Prop} (ht : P.underlying t = some (.struct fs)) (hf : OpensF P fs.toList 0 k S) (hc : P.cellsOf t = k) : Opens P t k S := by
 refine ⟨hc, fun H enc w base spare held fuel cs x h => ?_⟩
 obtain ⟨xs, n, _, _, hl, hxl, hall⟩ := DataW.trod_struct ht h
 rw [hc] at hl
 obtain ⟨ds, s, r⟩ := hf H enc w base spare held n cs (by omega) (fun f hm => by
  obtain ⟨i, hi⟩ := List.getElem?_of_mem hm
  have hi' : fs[i]? = some f := by simpa using hi
  have hlt : i < xs.length := by
   rw [hxl]
   exact (Array.getElem?_eq_some_iff.1 hi').1
  exact ⟨xs[i], by rw [hall i f hi', List.getElem?_eq_getElem hlt]⟩)
 rw [List.drop_zero, List.take_of_length_le (by omega)] at r
 exact ⟨hl, ds, s, r⟩
end
end Go.Proofs.YthjjdelpdiipdaaGreatDoor
namespace Go.Proofs.YthjjdelpdiipdaaGreatDoor
set_option maxRecDepth 100000
set_option linter.unusedVariables false
open Go.RowKit Go.ChangeShapes Go.WideShapes Go.ChangeAt
theorem Opens.mono {P : Program} {t : TypeId} {k : Nat} {S S' : List Dat → Prop} (h : Opens P t k S) (hs : ∀ ds, S ds → S' ds) : Opens P t k S' :=
 ⟨h.1, fun H enc w base spare held fuel cs x hx => by
  obtain ⟨hl, ds, s, r⟩ := h.2 H enc w base spare held fuel cs x hx
  exact ⟨hl, ds, hs ds s, r⟩⟩
theorem opens_i64 : Opens Tryz.prog 2 1 (fun ds => ∃ n : Int, ds = [Dat.int n]) :=
 (opens_int Tryz.underlying2 (by kernel_rfl)).mono fun _ ⟨n, e, _⟩ => ⟨n, e⟩
theorem opens_row : Opens Tryz.prog 60 1 (fun ds => ∃ xs : List Int, ds = rowC xs) :=
 opens_slice Tryz.underlying60 opens_i64 Nat.one_pos (fun _ => rfl) (by kernel_rfl)
theorem array_list {α : Type} {cs : Array α} {n : Nat} (h : cs.size = n) : ∃ l : List α, l.length = n ∧ cs = l.toArray := ⟨cs.toList, by simpa using h, by simp⟩
end Go.Proofs.YthjjdelpdiipdaaGreatDoor
namespace Go.Proofs.YthjjdelpdiipdaaGreatDoor
set_option maxRecDepth 100000
set_option linter.unusedVariables false
open Go.RowKit Go.ChangeShapes Go.WideShapes Go.ChangeAt
theorem opens_op : Opens Tryz.prog 151 5 (fun ds => ∃ x : OpM, ds = opC x) :=
 (opens_struct Tryz.underlying151 (opensF_cons rfl opens_i64 (opensF_cons rfl opens_i64 (opensF_cons rfl opens_i64 (opensF_cons rfl opens_i64 (opensF_cons rfl opens_i64 (opensF_nil _)))))) (by kernel_rfl)).mono fun _ h => by
  obtain ⟨_, _, ⟨q0, rfl⟩, ⟨_, _, ⟨q1, rfl⟩, ⟨_, _, ⟨q2, rfl⟩, ⟨_, _, ⟨q3, rfl⟩, ⟨_, _, ⟨q4, rfl⟩, rfl, rfl⟩, rfl⟩, rfl⟩, rfl⟩, rfl⟩ := h
  exact ⟨⟨q0, q1, q2, q3, q4⟩, rfl⟩
theorem opens_ent : Opens Tryz.prog 153 9 (fun ds => ∃ x : EntM, ds = entC x) :=
 (opens_struct Tryz.underlying153 (opensF_cons rfl opens_i64 (opensF_cons rfl opens_i64 (opensF_cons rfl opens_i64 (opensF_cons rfl opens_i64 (opensF_cons rfl opens_op (opensF_nil _)))))) (by kernel_rfl)).mono fun _ h => by
  obtain ⟨_, _, ⟨q0, rfl⟩, ⟨_, _, ⟨q1, rfl⟩, ⟨_, _, ⟨q2, rfl⟩, ⟨_, _, ⟨q3, rfl⟩, ⟨_, _, ⟨q4, rfl⟩, rfl, rfl⟩, rfl⟩, rfl⟩, rfl⟩, rfl⟩ := h
  exact ⟨⟨q0, q1, q2, q3, q4.kind, q4.a, q4.b, q4.c, q4.d⟩, rfl⟩
theorem opens_ents : Opens Tryz.prog 31 1 (fun ds => ∃ l : List EntM, ds = [entD l]) :=
 opens_slice Tryz.underlying31 opens_ent (by decide) entC_len (by kernel_rfl)
end Go.Proofs.YthjjdelpdiipdaaGreatDoor
namespace Go.Proofs.YthjjdelpdiipdaaGreatDoor
set_option maxRecDepth 100000
set_option linter.unusedVariables false
open Go.RowKit Go.ChangeShapes Go.WideShapes Go.ChangeAt
theorem opens_ack : Opens Tryz.prog 124 4 (fun ds => ∃ x : AckM, ds = ackC x) :=
 (opens_struct Tryz.underlying124 (opensF_cons rfl opens_i64 (opensF_cons rfl opens_i64 (opensF_cons rfl opens_i64 (opensF_cons rfl opens_i64 (opensF_nil _))))) (by kernel_rfl)).mono fun _ h => by
  obtain ⟨_, _, ⟨q0, rfl⟩, ⟨_, _, ⟨q1, rfl⟩, ⟨_, _, ⟨q2, rfl⟩, ⟨_, _, ⟨q3, rfl⟩, rfl, rfl⟩, rfl⟩, rfl⟩, rfl⟩ := h
  exact ⟨⟨q0, q1, q2, q3⟩, rfl⟩
end Go.Proofs.YthjjdelpdiipdaaGreatDoor
namespace Go.Proofs.YthjjdelpdiipdaaGreatDoor
set_option maxRecDepth 100000
set_option linter.unusedVariables false
open Go.RowKit Go.ChangeShapes Go.WideShapes Go.ChangeAt
theorem opens_rows : Opens Tryz.prog 22 1 (fun ds => ∃ l : List (List Int), ds = [keptD l]) :=
 opens_slice Tryz.underlying22 opens_row Nat.one_pos rowC_len (by kernel_rfl)
theorem opens_write : Opens Tryz.prog 170 2 (fun ds => ∃ p : Int × List Int, ds = wrC p) :=
 (opens_struct Tryz.underlying170 (opensF_cons rfl opens_i64 (opensF_cons rfl opens_row (opensF_nil _))) (by kernel_rfl)).mono fun _ h => by
  obtain ⟨_, _, ⟨n, rfl⟩, ⟨_, _, ⟨xs, rfl⟩, rfl, rfl⟩, rfl⟩ := h
  exact ⟨(n, xs), rfl⟩
theorem opens_writes : Opens Tryz.prog 23 1 (fun ds => ∃ l : List (Int × List Int), ds = [waitD l]) :=
 opens_slice Tryz.underlying23 opens_write (by decide) wrC_len (by kernel_rfl)
theorem opens_disk : Opens Tryz.prog 25 2 (fun ds => ∃ d : DiskM, ds = d.cells) :=
 (opens_struct Tryz.underlying25 (opensF_cons rfl opens_rows (opensF_cons rfl opens_writes (opensF_nil _))) (by kernel_rfl)).mono fun _ h => by
  obtain ⟨_, _, ⟨k, rfl⟩, ⟨_, _, ⟨l, rfl⟩, rfl, rfl⟩, rfl⟩ := h
  exact ⟨⟨k, l⟩, rfl⟩
end Go.Proofs.YthjjdelpdiipdaaGreatDoor
namespace Go.Proofs.YthjjdelpdiipdaaGreatDoor
set_option maxRecDepth 100000
open Go.RowKit Go.ChangeShapes Go.WideShapes Go.ChangeAt
theorem opens_two : Opens Tryz.prog 27 4 (fun ds => ∃ t : TwoM, ds = t.cells) :=
 (opens_struct Tryz.underlying27 (opensF_cons rfl opens_disk (opensF_cons rfl opens_disk (opensF_nil _))) (by kernel_rfl)).mono fun _ h => by
  obtain ⟨_, _, ⟨a, rfl⟩, ⟨_, _, ⟨b, rfl⟩, rfl, rfl⟩, rfl⟩ := h
  exact ⟨⟨a, b⟩, by simp [TwoM.cells]⟩
end Go.Proofs.YthjjdelpdiipdaaGreatDoor

/- Parts of my texts: LogE LogH. -/
import Derived.Test.YthjjdelpdiipdaaGreatDoorMX10
namespace Go.Proofs.YthjjdelpdiipdaaGreatDoor
set_option maxRecDepth 100000
set_option linter.unusedVariables false
open Go.RowKit
set_option maxHeartbeats 6400000 in
theorem eqLogNode_yes (v0 v1 v2 v3 v4 v5 v6 v7 v8 v9 v10 v11 v12 v13 v14 v15 v16 v17 v18 u0 u1 u2 u3 u4 u5 u6 u7 u8 u9 u10 u11 u12 u13 u14 u15 u16 u17 u18 : Value) (B B' : Nat) (t : LogM) (w : World) (h : Rd w B t.cells [v0, v1, v2, v3, v4, v5, v6, v7, v8, v9, v10, v11, v12, v13, v14, v15, v16, v17, v18]) (h' : Rd w B' t.cells [u0, u1, u2, u3, u4, u5, u6, u7, u8, u9, u10, u11, u12, u13, u14, u15, u16, u17, u18]) (hB : B ≤ w.heap.size) (hB' : B' ≤ w.heap.size) (hs : t.sz ≤ 1048577) :
    Calls Tryz.prog 10 #[.agg #[v0, v1, v2, v3, v4, v5, v6, v7, v8, v9, v10, v11, v12, v13, v14, v15, v16, v17, v18], .agg #[u0, u1, u2, u3, u4, u5, u6, u7, u8, u9, u10, u11, u12, u13, u14, u15, u16, u17, u18]] w fun e w' => e = .returned (.bool true) ∧ Below w.heap.size w w' := by
 obtain ⟨Aa0, na0, ca0, Aa1, na1, ca1, Aa2, na2, ca2, Aa3, na3, ca3, Aa7, na7, ca7, Aa11, na11, ca11, Aa15, na15, ca15, Aa16, na16, ca16, Aa18, na18, ca18, ea0, ea1, ea2, ea3, ea4, ea5, ea6, ea7, ea8, ea9, ea10, ea11, ea12, ea13, ea14, ea15, ea16, ea17, ea18, hr0, hr1, hr2, hr4, hr5, hr7⟩ := h.logT
 subst ea0 ea1 ea2 ea3 ea4 ea5 ea6 ea7 ea8 ea9 ea10 ea11 ea12 ea13 ea14 ea15 ea16 ea17 ea18
 obtain ⟨Ab0, nb0, cb0, Ab1, nb1, cb1, Ab2, nb2, cb2, Ab3, nb3, cb3, Ab7, nb7, cb7, Ab11, nb11, cb11, Ab15, nb15, cb15, Ab16, nb16, cb16, Ab18, nb18, cb18, eb0, eb1, eb2, eb3, eb4, eb5, eb6, eb7, eb8, eb9, eb10, eb11, eb12, eb13, eb14, eb15, eb16, eb17, eb18, kr0, kr1, kr2, kr4, kr5, kr7⟩ := h'.logT
 subst eb0 eb1 eb2 eb3 eb4 eb5 eb6 eb7 eb8 eb9 eb10 eb11 eb12 eb13 eb14 eb15 eb16 eb17 eb18
 have S := Sep.nil w w.heap.size
 have c := Below.refl w.heap.size w
 have hz0 : t.two.sz ≤ 1048577 := by unfold LogM.sz at hs; omega
 have hz1 : t.head.sz ≤ 1048577 := by unfold LogM.sz at hs; omega
 have hz2 : t.next.sz ≤ 1048577 := by unfold LogM.sz at hs; omega
 have hz4 : t.book.sz ≤ 1048577 := by unfold LogM.sz at hs; omega
 have hz5 : mrkSz t.seen ≤ 1048577 := by unfold LogM.sz at hs; omega
 have hz7 : oweSz t.owe ≤ 1048577 := by unfold LogM.sz at hs; omega
 replace S := S.boxAt c.size (w.heap.size) rfl #[.slice Aa0 na0 ca0, .slice Aa1 na1 ca1, .slice Aa2 na2 ca2, .slice Aa3 na3 ca3, .int .i64 t.head.num, .int .i64 t.head.base, .int .i64 t.head.tm, .slice Aa7 na7 ca7, .int .i64 t.next.num, .int .i64 t.next.base, .int .i64 t.next.tm, .slice Aa11 na11 ca11, .bool t.more, .int .i64 t.book.base, .int .i64 t.book.tm, .slice Aa15 na15 ca15, .slice Aa16 na16 ca16, .int .i64 t.dur, .slice Aa18 na18 ca18] 52
 replace c := al c S
 replace S := S.boxAt c.size (w.heap.size + 1) (by simp) #[.slice Ab0 nb0 cb0, .slice Ab1 nb1 cb1, .slice Ab2 nb2 cb2, .slice Ab3 nb3 cb3, .int .i64 t.head.num, .int .i64 t.head.base, .int .i64 t.head.tm, .slice Ab7 nb7 cb7, .int .i64 t.next.num, .int .i64 t.next.base, .int .i64 t.next.tm, .slice Ab11 nb11 cb11, .bool t.more, .int .i64 t.book.base, .int .i64 t.book.tm, .slice Ab15 nb15 cb15, .slice Ab16 nb16 cb16, .int .i64 t.dur, .slice Ab18 nb18 cb18] 52
 replace c := al c S
 go_enter Tryz.func10, Tryz.ntmps10
 go_wp2_with fail
 generalize (w.alloc (.cells #[.slice Aa0 na0 ca0, .slice Aa1 na1 ca1, .slice Aa2 na2 ca2, .slice Aa3 na3 ca3, .int .i64 t.head.num, .int .i64 t.head.base, .int .i64 t.head.tm, .slice Aa7 na7 ca7, .int .i64 t.next.num, .int .i64 t.next.base, .int .i64 t.next.tm, .slice Aa11 na11 ca11, .bool t.more, .int .i64 t.book.base, .int .i64 t.book.tm, .slice Aa15 na15 ca15, .slice Aa16 na16 ca16, .int .i64 t.dur, .slice Aa18 na18 ca18] 52)).alloc (.cells #[.slice Ab0 nb0 cb0, .slice Ab1 nb1 cb1, .slice Ab2 nb2 cb2, .slice Ab3 nb3 cb3, .int .i64 t.head.num, .int .i64 t.head.base, .int .i64 t.head.tm, .slice Ab7 nb7 cb7, .int .i64 t.next.num, .int .i64 t.next.base, .int .i64 t.next.tm, .slice Ab11 nb11 cb11, .bool t.more, .int .i64 t.book.base, .int .i64 t.book.tm, .slice Ab15 nb15 cb15, .slice Ab16 nb16 cb16, .int .i64 t.dur, .slice Ab18 nb18 cb18] 52) = w1 at *
 refine (eqTwo_yes _ _ _ _ _ _ _ _ _ _ t.two _ (hr0.keep (c.mono hB)) (kr0.keep (c.mono hB')) (Nat.le_trans hB c.size) (Nat.le_trans hB' c.size) hz0).mono ?_
 rintro e w2 ⟨rfl, b⟩
 replace c := c.trans (b.mono c.size)
 replace S := S.keep b
 clear b
 have f0 := lk S 1 4 rfl rfl
 have f1 := lk S 1 5 rfl rfl
 have f2 := lk S 1 6 rfl rfl
 have f3 := lk S 1 7 rfl rfl
 have f4 := lk S 0 4 rfl rfl
 have f5 := lk S 0 5 rfl rfl
 have f6 := lk S 0 6 rfl rfl
 have f7 := lk S 0 7 rfl rfl
 go_wp2_with fail
 refine (eqHead_yes _ _ _ _ _ _ _ _ _ _ t.head _ (hr1.keep (c.mono hB)) (kr1.keep (c.mono hB')) (Nat.le_trans hB c.size) (Nat.le_trans hB' c.size) hz1).mono ?_
 rintro e w3 ⟨rfl, b⟩
 replace c := c.trans (b.mono c.size)
 replace S := S.keep b
 clear b f0 f1 f2 f3 f4 f5 f6 f7
 have f8 := lk S 1 8 rfl rfl
 have f9 := lk S 1 9 rfl rfl
 have f10 := lk S 1 10 rfl rfl
 have f11 := lk S 1 11 rfl rfl
 have f12 := lk S 0 8 rfl rfl
 have f13 := lk S 0 9 rfl rfl
 have f14 := lk S 0 10 rfl rfl
 have f15 := lk S 0 11 rfl rfl
 go_wp2_with fail
 refine (eqHead_yes _ _ _ _ _ _ _ _ _ _ t.next _ (hr2.keep (c.mono hB)) (kr2.keep (c.mono hB')) (Nat.le_trans hB c.size) (Nat.le_trans hB' c.size) hz2).mono ?_
 rintro e w4 ⟨rfl, b⟩
 replace c := c.trans (b.mono c.size)
 replace S := S.keep b
 clear b f8 f9 f10 f11 f12 f13 f14 f15
 have f16 := lk S 1 12 rfl rfl
 have f17 := lk S 1 13 rfl rfl
 have f18 := lk S 1 14 rfl rfl
 have f19 := lk S 1 15 rfl rfl
 have f20 := lk S 0 12 rfl rfl
 have f21 := lk S 0 13 rfl rfl
 have f22 := lk S 0 14 rfl rfl
 have f23 := lk S 0 15 rfl rfl
 go_wp2_with fail
 refine (eqBook_yes _ _ _ _ _ _ _ _ t.book _ (hr4.keep (c.mono hB)) (kr4.keep (c.mono hB')) (Nat.le_trans hB c.size) (Nat.le_trans hB' c.size) hz4).mono ?_
 rintro e w5 ⟨rfl, b⟩
 replace c := c.trans (b.mono c.size)
 replace S := S.keep b
 clear b f16 f17 f18 f19 f20 f21 f22 f23
 have f24 := lk S 1 16 rfl rfl
 have f25 := lk S 0 16 rfl rfl
 go_wp2_with fail
 refine (eqMarkS_yes _ _ _ _ _ _ _ _ t.seen _ (hr5.keep (c.mono hB)) (kr5.keep (c.mono hB')) (Nat.le_trans hB c.size) (Nat.le_trans hB' c.size) hz5).mono ?_
 rintro e w6 ⟨rfl, b⟩
 replace c := c.trans (b.mono c.size)
 replace S := S.keep b
 clear b f24 f25
 have f26 := lk S 1 17 rfl rfl
 have f27 := lk S 1 18 rfl rfl
 have f28 := lk S 0 17 rfl rfl
 have f29 := lk S 0 18 rfl rfl
 go_wp2_with fail
 refine (eqAckS_yes _ _ _ _ _ _ _ _ t.owe _ (hr7.keep (c.mono hB)) (kr7.keep (c.mono hB')) (Nat.le_trans hB c.size) (Nat.le_trans hB' c.size) hz7).mono ?_
 rintro e w7 ⟨rfl, b⟩
 replace c := c.trans (b.mono c.size)
 replace S := S.keep b
 clear b f26 f27 f28 f29
 have C := jd c
 clear S c h h' hr0 kr0 hr1 kr1 hr2 kr2 hr4 kr4 hr5 kr5 hr7 kr7
 go_wp2
 go_ret
 exact ⟨rfl, C.out⟩
set_option maxHeartbeats 6400000 in
theorem szLogNode_any (v0 v1 v2 v3 v4 v5 v6 v7 v8 v9 v10 v11 v12 v13 v14 v15 v16 v17 v18 : Value) (t : LogM) (B : Nat) (L : Int) (w : World) (h : Rd w B t.cells [v0, v1, v2, v3, v4, v5, v6, v7, v8, v9, v10, v11, v12, v13, v14, v15, v16, v17, v18]) (hB : B ≤ w.heap.size) (l0 : 0 ≤ L) (l1 : L ≤ 1048576) :
    Calls Tryz.prog 6 #[.agg #[v0, v1, v2, v3, v4, v5, v6, v7, v8, v9, v10, v11, v12, v13, v14, v15, v16, v17, v18], .int .i64 L] w fun e w' => e = .returned (.int .i64 (left L t.sz)) ∧ Below w.heap.size w w' := by
 obtain ⟨Aa0, na0, ca0, Aa1, na1, ca1, Aa2, na2, ca2, Aa3, na3, ca3, Aa7, na7, ca7, Aa11, na11, ca11, Aa15, na15, ca15, Aa16, na16, ca16, Aa18, na18, ca18, ea0, ea1, ea2, ea3, ea4, ea5, ea6, ea7, ea8, ea9, ea10, ea11, ea12, ea13, ea14, ea15, ea16, ea17, ea18, hr0, hr1, hr2, hr4, hr5, hr7⟩ := h.logT
 subst ea0 ea1 ea2 ea3 ea4 ea5 ea6 ea7 ea8 ea9 ea10 ea11 ea12 ea13 ea14 ea15 ea16 ea17 ea18
 have HD := jd (show t.sz = t.two.sz + t.head.sz + t.next.sz + t.book.sz + mrkSz t.seen + oweSz t.owe from rfl)
 have S := Sep.nil w w.heap.size
 have c := Below.refl w.heap.size w
 replace S := S.boxAt c.size (w.heap.size) rfl #[.slice Aa0 na0 ca0, .slice Aa1 na1 ca1, .slice Aa2 na2 ca2, .slice Aa3 na3 ca3, .int .i64 t.head.num, .int .i64 t.head.base, .int .i64 t.head.tm, .slice Aa7 na7 ca7, .int .i64 t.next.num, .int .i64 t.next.base, .int .i64 t.next.tm, .slice Aa11 na11 ca11, .bool t.more, .int .i64 t.book.base, .int .i64 t.book.tm, .slice Aa15 na15 ca15, .slice Aa16 na16 ca16, .int .i64 t.dur, .slice Aa18 na18 ca18] 36
 replace c := al c S
 go_enter Tryz.func6, Tryz.ntmps6
 go_wp2_with fail
 generalize w.alloc (.cells #[.slice Aa0 na0 ca0, .slice Aa1 na1 ca1, .slice Aa2 na2 ca2, .slice Aa3 na3 ca3, .int .i64 t.head.num, .int .i64 t.head.base, .int .i64 t.head.tm, .slice Aa7 na7 ca7, .int .i64 t.next.num, .int .i64 t.next.base, .int .i64 t.next.tm, .slice Aa11 na11 ca11, .bool t.more, .int .i64 t.book.base, .int .i64 t.book.tm, .slice Aa15 na15 ca15, .slice Aa16 na16 ca16, .int .i64 t.dur, .slice Aa18 na18 ca18] 36) = w1 at *
 refine (szTwo_any _ _ _ _ t.two _ _ _ (hr0.keep (c.mono hB)) (Nat.le_trans hB c.size) (by omega) (by omega)).mono ?_
 rintro e w2 ⟨rfl, b⟩
 replace c := c.trans (b.mono c.size)
 replace S := S.keep b
 clear b
 obtain ⟨s0, hsv0⟩ : ∃ q, q = t.two.sz := ⟨_, rfl⟩
 rw [← hsv0]
 have HV0 := jd hsv0
 clear hsv0
 by_cases hc0 : (s0 : Int) ≤ L
 case neg =>
  rw [left, if_neg (by omega)]
  have C := jd c
  clear S c h hr0 hr1 hr2 hr4 hr5 hr7
  go_wp2
  go_ret
  refine ⟨ret_i64 ?_, C.out⟩
  rw [left, HD.out, ← HV0.out, if_neg (by omega)]
 rw [left, if_pos (by omega)]
 have q0 : ¬ (L - (s0 : Int) < 0) := by omega
 have f0 := lk S 0 4 rfl rfl
 have f1 := lk S 0 5 rfl rfl
 have f2 := lk S 0 6 rfl rfl
 have f3 := lk S 0 7 rfl rfl
 go_wp2_with fail
 refine (szHead_any _ _ _ _ t.head _ _ _ (hr1.keep (c.mono hB)) (Nat.le_trans hB c.size) (by omega) (by omega)).mono ?_
 rintro e w3 ⟨rfl, b⟩
 replace c := c.trans (b.mono c.size)
 replace S := S.keep b
 clear b f0 f1 f2 f3
 obtain ⟨s1, hsv1⟩ : ∃ q, q = t.head.sz := ⟨_, rfl⟩
 rw [← hsv1]
 have HV1 := jd hsv1
 clear hsv1
 by_cases hc1 : (s1 : Int) ≤ L - (s0 : Int)
 case neg =>
  rw [left, if_neg (by omega)]
  have C := jd c
  clear S c h hr0 hr1 hr2 hr4 hr5 hr7
  go_wp2
  go_ret
  refine ⟨ret_i64 ?_, C.out⟩
  rw [left, HD.out, ← HV0.out, ← HV1.out, if_neg (by omega)]
 rw [left, if_pos (by omega)]
 have q1 : ¬ (L - (s0 : Int) - (s1 : Int) < 0) := by omega
 have f4 := lk S 0 8 rfl rfl
 have f5 := lk S 0 9 rfl rfl
 have f6 := lk S 0 10 rfl rfl
 have f7 := lk S 0 11 rfl rfl
 go_wp2_with fail
 refine (szHead_any _ _ _ _ t.next _ _ _ (hr2.keep (c.mono hB)) (Nat.le_trans hB c.size) (by omega) (by omega)).mono ?_
 rintro e w4 ⟨rfl, b⟩
 replace c := c.trans (b.mono c.size)
 replace S := S.keep b
 clear b f4 f5 f6 f7
 obtain ⟨s2, hsv2⟩ : ∃ q, q = t.next.sz := ⟨_, rfl⟩
 rw [← hsv2]
 have HV2 := jd hsv2
 clear hsv2
 by_cases hc2 : (s2 : Int) ≤ L - (s0 : Int) - (s1 : Int)
 case neg =>
  rw [left, if_neg (by omega)]
  have C := jd c
  clear S c h hr0 hr1 hr2 hr4 hr5 hr7
  go_wp2
  go_ret
  refine ⟨ret_i64 ?_, C.out⟩
  rw [left, HD.out, ← HV0.out, ← HV1.out, ← HV2.out, if_neg (by omega)]
 rw [left, if_pos (by omega)]
 have q2 : ¬ (L - (s0 : Int) - (s1 : Int) - (s2 : Int) < 0) := by omega
 have f8 := lk S 0 13 rfl rfl
 have f9 := lk S 0 14 rfl rfl
 have f10 := lk S 0 15 rfl rfl
 go_wp2_with fail
 refine (szBook_any _ _ _ t.book _ _ _ (hr4.keep (c.mono hB)) (Nat.le_trans hB c.size) (by omega) (by omega)).mono ?_
 rintro e w5 ⟨rfl, b⟩
 replace c := c.trans (b.mono c.size)
 replace S := S.keep b
 clear b f8 f9 f10
 obtain ⟨s4, hsv4⟩ : ∃ q, q = t.book.sz := ⟨_, rfl⟩
 rw [← hsv4]
 have HV4 := jd hsv4
 clear hsv4
 by_cases hc4 : (s4 : Int) ≤ L - (s0 : Int) - (s1 : Int) - (s2 : Int)
 case neg =>
  rw [left, if_neg (by omega)]
  have C := jd c
  clear S c h hr0 hr1 hr2 hr4 hr5 hr7
  go_wp2
  go_ret
  refine ⟨ret_i64 ?_, C.out⟩
  rw [left, HD.out, ← HV0.out, ← HV1.out, ← HV2.out, ← HV4.out, if_neg (by omega)]
 rw [left, if_pos (by omega)]
 have q4 : ¬ (L - (s0 : Int) - (s1 : Int) - (s2 : Int) - (s4 : Int) < 0) := by omega
 have f11 := lk S 0 16 rfl rfl
 go_wp2_with fail
 refine (szMarkS_any _ _ _ t.seen _ _ _ (hr5.keep (c.mono hB)) (Nat.le_trans hB c.size) (by omega) (by omega)).mono ?_
 rintro e w6 ⟨rfl, b⟩
 replace c := c.trans (b.mono c.size)
 replace S := S.keep b
 clear b f11
 obtain ⟨s5, hsv5⟩ : ∃ q, q = mrkSz t.seen := ⟨_, rfl⟩
 rw [← hsv5]
 have HV5 := jd hsv5
 clear hsv5
 by_cases hc5 : (s5 : Int) ≤ L - (s0 : Int) - (s1 : Int) - (s2 : Int) - (s4 : Int)
 case neg =>
  rw [left, if_neg (by omega)]
  have C := jd c
  clear S c h hr0 hr1 hr2 hr4 hr5 hr7
  go_wp2
  go_ret
  refine ⟨ret_i64 ?_, C.out⟩
  rw [left, HD.out, ← HV0.out, ← HV1.out, ← HV2.out, ← HV4.out, ← HV5.out, if_neg (by omega)]
 rw [left, if_pos (by omega)]
 have q5 : ¬ (L - (s0 : Int) - (s1 : Int) - (s2 : Int) - (s4 : Int) - (s5 : Int) < 0) := by omega
 have f12 := lk S 0 18 rfl rfl
 go_wp2_with fail
 refine (szAckS_any _ _ _ t.owe _ _ _ (hr7.keep (c.mono hB)) (Nat.le_trans hB c.size) (by omega) (by omega)).mono ?_
 rintro e w7 ⟨rfl, b⟩
 replace c := c.trans (b.mono c.size)
 replace S := S.keep b
 clear b f12
 obtain ⟨s7, hsv7⟩ : ∃ q, q = oweSz t.owe := ⟨_, rfl⟩
 rw [← hsv7]
 have HV7 := jd hsv7
 clear hsv7
 by_cases hc7 : (s7 : Int) ≤ L - (s0 : Int) - (s1 : Int) - (s2 : Int) - (s4 : Int) - (s5 : Int)
 case neg =>
  rw [left, if_neg (by omega)]
  have C := jd c
  clear S c h hr0 hr1 hr2 hr4 hr5 hr7
  go_wp2
  go_ret
  refine ⟨ret_i64 ?_, C.out⟩
  rw [left, HD.out, ← HV0.out, ← HV1.out, ← HV2.out, ← HV4.out, ← HV5.out, ← HV7.out, if_neg (by omega)]
 rw [left, if_pos (by omega)]
 have q7 : ¬ (L - (s0 : Int) - (s1 : Int) - (s2 : Int) - (s4 : Int) - (s5 : Int) - (s7 : Int) < 0) := by omega
 have C := jd c
 clear S c h hr0 hr1 hr2 hr4 hr5 hr7
 go_wp2
 go_ret
 refine ⟨ret_i64 ?_, C.out⟩
 rw [left, HD.out, ← HV0.out, ← HV1.out, ← HV2.out, ← HV4.out, ← HV5.out, ← HV7.out, if_pos (by omega)]
 omega
set_option maxHeartbeats 6400000 in
theorem markLogNode_any (v0 v1 v2 v3 v4 v5 v6 v7 v8 v9 v10 v11 v12 v13 v14 v15 v16 v17 v18 : Value) (t : LogM) (fp : List Nat) (w : World) (o : Ow w t.cells [v0, v1, v2, v3, v4, v5, v6, v7, v8, v9, v10, v11, v12, v13, v14, v15, v16, v17, v18] fp) (hnd : fp.Nodup) (hs : t.sz ≤ 1048577) (k : Int) (k0 : 0 ≤ k) (k1 : k ≤ 80000000000) :
    Calls Tryz.prog 14 #[.agg #[v0, v1, v2, v3, v4, v5, v6, v7, v8, v9, v10, v11, v12, v13, v14, v15, v16, v17, v18], .int .i64 k] w fun e w' => ∃ t', e = .returned (.int .i64 (k + (t.n : Int))) ∧ Ow w' t'.cells [v0, v1, v2, v3, v4, v5, v6, v7, v8, v9, v10, v11, v12, v13, v14, v15, v16, v17, v18] fp ∧ Touch fp w w' ∧ MarkedLogNode t' k ∧ t'.n = t.n ∧ t'.sz = t.sz := by
 obtain ⟨Aa0, na0, ca0, Aa1, na1, ca1, Aa2, na2, ca2, Aa3, na3, ca3, Aa7, na7, ca7, Aa11, na11, ca11, Aa15, na15, ca15, Aa16, na16, ca16, Aa18, na18, ca18, ea0, ea1, ea2, ea3, ea4, ea5, ea6, ea7, ea8, ea9, ea10, ea11, ea12, ea13, ea14, ea15, ea16, ea17, ea18, _hr0, _hr1, _hr2, _hr4, _hr5, _hr7⟩ := o.rd.logT
 subst ea0 ea1 ea2 ea3 ea4 ea5 ea6 ea7 ea8 ea9 ea10 ea11 ea12 ea13 ea14 ea15 ea16 ea17 ea18
 have hz0 : t.two.sz ≤ 1048577 := by unfold LogM.sz at hs; omega
 have hz1 : t.head.sz ≤ 1048577 := by unfold LogM.sz at hs; omega
 have hz2 : t.next.sz ≤ 1048577 := by unfold LogM.sz at hs; omega
 have hz4 : t.book.sz ≤ 1048577 := by unfold LogM.sz at hs; omega
 have hz5 : mrkSz t.seen ≤ 1048577 := by unfold LogM.sz at hs; omega
 have hz7 : oweSz t.owe ≤ 1048577 := by unfold LogM.sz at hs; omega
 have h9 := log_n_le t hs
 have hna : t.n = t.two.n + t.head.n + t.next.n + t.book.n + mrkN t.seen + oweN t.owe := rfl
 obtain ⟨f0, f1, f2, f4, f5, f7, rfl, o0, o1, o2, o4, o5, o7⟩ := Ow.logT o
 have n0 := hnd
 have n1 := (List.nodup_append.1 n0).2.1
 have n2 := (List.nodup_append.1 n1).2.1
 have n3 := (List.nodup_append.1 n2).2.1
 have n4 := (List.nodup_append.1 n3).2.1
 have n5 := (List.nodup_append.1 n4).2.1
 have n6 := (List.nodup_append.1 n5).2.1
 have S := Sep.nil w 0
 replace S := S.addOw o7 n5
 replace S := S.addOw o5 n4
 replace S := S.addOw o4 n3
 replace S := S.addOw o2 n2
 replace S := S.addOw o1 n1
 replace S := S.addOw o0 n0
 clear o o0 o1 o2 o4 o5 o7 n0 n1 n2 n3 n4 n5 n6
 have T := Touch.of_below ((Below.refl _ w).alloc (Nat.le_refl _) (.cells #[.slice Aa0 na0 ca0, .slice Aa1 na1 ca1, .slice Aa2 na2 ca2, .slice Aa3 na3 ca3, .int .i64 t.head.num, .int .i64 t.head.base, .int .i64 t.head.tm, .slice Aa7 na7 ca7, .int .i64 t.next.num, .int .i64 t.next.base, .int .i64 t.next.tm, .slice Aa11 na11 ca11, .bool t.more, .int .i64 t.book.base, .int .i64 t.book.tm, .slice Aa15 na15 ca15, .slice Aa16 na16 ca16, .int .i64 t.dur, .slice Aa18 na18 ca18] 52)) (f0 ++ (f1 ++ (f2 ++ (f4 ++ (f5 ++ (f7 ++ ([])))))))
 replace S := S.boxAt (Nat.zero_le _) w.heap.size rfl #[.slice Aa0 na0 ca0, .slice Aa1 na1 ca1, .slice Aa2 na2 ca2, .slice Aa3 na3 ca3, .int .i64 t.head.num, .int .i64 t.head.base, .int .i64 t.head.tm, .slice Aa7 na7 ca7, .int .i64 t.next.num, .int .i64 t.next.base, .int .i64 t.next.tm, .slice Aa11 na11 ca11, .bool t.more, .int .i64 t.book.base, .int .i64 t.book.tm, .slice Aa15 na15 ca15, .slice Aa16 na16 ca16, .int .i64 t.dur, .slice Aa18 na18 ca18] 52
 go_enter Tryz.func14, Tryz.ntmps14
 go_wp2_with fail
 generalize w.alloc (.cells #[.slice Aa0 na0 ca0, .slice Aa1 na1 ca1, .slice Aa2 na2 ca2, .slice Aa3 na3 ca3, .int .i64 t.head.num, .int .i64 t.head.base, .int .i64 t.head.tm, .slice Aa7 na7 ca7, .int .i64 t.next.num, .int .i64 t.next.base, .int .i64 t.next.tm, .slice Aa11 na11 ca11, .bool t.more, .int .i64 t.book.base, .int .i64 t.book.tm, .slice Aa15 na15 ca15, .slice Aa16 na16 ca16, .int .i64 t.dur, .slice Aa18 na18 ca18] 52) = w1 at *
 refine (markTwo_any _ _ _ _ t.two f0 _ (S.own_ 1 rfl) (S.nodup_own 1 rfl) hz0 _ (by omega) (by omega)).mono ?_
 rintro e w2 ⟨d0, rfl, o, t', m0, en0, es0⟩
 replace T := T.trans (t'.mono (fun p hp => by simp [hp]))
 replace S := S.mark 1 rfl t' o
 clear o t'
 have M0 := jd m0
 clear m0
 have f100 := lk S 0 4 rfl rfl
 have f101 := lk S 0 5 rfl rfl
 have f102 := lk S 0 6 rfl rfl
 have f103 := lk S 0 7 rfl rfl
 go_wp2_with fail
 refine (markHead_any _ _ _ _ t.head f1 _ (S.own_ 2 rfl) (S.nodup_own 2 rfl) hz1 _ (by omega) (by omega)).mono ?_
 rintro e w3 ⟨d1, rfl, o, t', m1, en1, es1⟩
 replace T := T.trans (t'.mono (fun p hp => by simp [hp]))
 replace S := S.mark 2 rfl t' o
 clear o t' f100 f101 f102 f103
 have M1 := jd m1
 clear m1
 have f104 := lk S 0 8 rfl rfl
 have f105 := lk S 0 9 rfl rfl
 have f106 := lk S 0 10 rfl rfl
 have f107 := lk S 0 11 rfl rfl
 go_wp2_with fail
 refine (markHead_any _ _ _ _ t.next f2 _ (S.own_ 3 rfl) (S.nodup_own 3 rfl) hz2 _ (by omega) (by omega)).mono ?_
 rintro e w4 ⟨d2, rfl, o, t', m2, en2, es2⟩
 replace T := T.trans (t'.mono (fun p hp => by simp [hp]))
 replace S := S.mark 3 rfl t' o
 clear o t' f104 f105 f106 f107
 have M2 := jd m2
 clear m2
 have f108 := lk S 0 13 rfl rfl
 have f109 := lk S 0 14 rfl rfl
 have f110 := lk S 0 15 rfl rfl
 go_wp2_with fail
 refine (markBook_any _ _ _ t.book f4 _ (S.own_ 4 rfl) (S.nodup_own 4 rfl) hz4 _ (by omega) (by omega)).mono ?_
 rintro e w5 ⟨d4, rfl, o, t', m4, en4, es4⟩
 replace T := T.trans (t'.mono (fun p hp => by simp [hp]))
 replace S := S.mark 4 rfl t' o
 clear o t' f108 f109 f110
 have M4 := jd m4
 clear m4
 have f111 := lk S 0 16 rfl rfl
 go_wp2_with fail
 refine (markMarkS_any _ _ _ t.seen f5 _ (S.own_ 5 rfl) (S.nodup_own 5 rfl) hz5 _ (by omega) (by omega)).mono ?_
 rintro e w6 ⟨d5, rfl, o, t', m5, en5, es5⟩
 replace T := T.trans (t'.mono (fun p hp => by simp [hp]))
 replace S := S.mark 5 rfl t' o
 clear o t' f111
 have M5 := jd m5
 clear m5
 have f112 := lk S 0 18 rfl rfl
 go_wp2_with fail
 refine (markAckS_any _ _ _ t.owe f7 _ (S.own_ 6 rfl) (S.nodup_own 6 rfl) hz7 _ (by omega) (by omega)).mono ?_
 rintro e w7 ⟨d7, rfl, o, t', m7, en7, es7⟩
 replace T := T.trans (t'.mono (fun p hp => by simp [hp]))
 replace S := S.mark 6 rfl t' o
 clear o t' f112
 have M7 := jd m7
 clear m7
 have R0 : Ow _ (LogM.cells (⟨d0, d1, d2, t.more, d4, d5, t.dur, d7⟩)) [.slice Aa0 na0 ca0, .slice Aa1 na1 ca1, .slice Aa2 na2 ca2, .slice Aa3 na3 ca3, .int .i64 t.head.num, .int .i64 t.head.base, .int .i64 t.head.tm, .slice Aa7 na7 ca7, .int .i64 t.next.num, .int .i64 t.next.base, .int .i64 t.next.tm, .slice Aa11 na11 ca11, .bool t.more, .int .i64 t.book.base, .int .i64 t.book.tm, .slice Aa15 na15 ca15, .slice Aa16 na16 ca16, .int .i64 t.dur, .slice Aa18 na18 ca18] (f0 ++ (f1 ++ (f2 ++ (f4 ++ (f5 ++ (f7 ++ ([]))))))) := (Ow.append (S.own_ 1 rfl) (Ow.append (S.own_ 2 rfl) (Ow.append (S.own_ 3 rfl) (.bool (Ow.append (S.own_ 4 rfl) (Ow.append (S.own_ 5 rfl) (.int (Ow.append (S.own_ 6 rfl) .nil))))))))
 have R := jd R0
 have TT := jd T
 have E := jd (And.intro hna (And.intro (And.intro en0 (And.intro en1 (And.intro en2 (And.intro en4 (And.intro en5 (en7)))))) (And.intro es0 (And.intro es1 (And.intro es2 (And.intro es4 (And.intro es5 (es7))))))))
 clear S T R0 hna en0 es0 en1 es1 en2 es2 en4 es4 en5 es5 en7 es7
 go_wp2
 go_ret
 obtain ⟨hna, en, es⟩ := E.out
 obtain ⟨en0, en1, en2, en4, en5, en7⟩ := en
 obtain ⟨es0, es1, es2, es4, es5, es7⟩ := es
 refine ⟨⟨d0, d1, d2, t.more, d4, d5, t.dur, d7⟩, ?_, R.out, TT.out, ?_, ?_, ?_⟩
 · refine congrArg Ending.returned (congrArg (Value.int .i64) ?_)
   omega
 · show MarkedT d0 (k) ∧ MarkedHead d1 (k + (d0.n : Int)) ∧ MarkedHead d2 (k + (d0.n : Int) + (d1.n : Int)) ∧ MarkedBook d4 (k + (d0.n : Int) + (d1.n : Int) + (d2.n : Int)) ∧ MarkedMarkS d5 (k + (d0.n : Int) + (d1.n : Int) + (d2.n : Int) + (d4.n : Int)) ∧ MarkedAckS d7 (k + (d0.n : Int) + (d1.n : Int) + (d2.n : Int) + (d4.n : Int) + (mrkN d5 : Int))
   rw [en0, en1, en2, en4, en5]
   exact ⟨M0.out, M1.out, M2.out, M4.out, M5.out, M7.out⟩
 · show d0.n + d1.n + d2.n + d4.n + mrkN d5 + oweN d7 = t.two.n + t.head.n + t.next.n + t.book.n + mrkN t.seen + oweN t.owe
   omega
 · show d0.sz + d1.sz + d2.sz + d4.sz + mrkSz d5 + oweSz d7 = t.two.sz + t.head.sz + t.next.sz + t.book.sz + mrkSz t.seen + oweSz t.owe
   omega
end Go.Proofs.YthjjdelpdiipdaaGreatDoor

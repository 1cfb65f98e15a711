/- Parts of my texts: Head LawHeadOk. -/
import Derived.Test.YtljnplalnhiidaaK2
import Derived.Deep.RegionHeld3
namespace Go.Proofs.Ytljnplalnhiidaa
set_option maxRecDepth 100000
set_option linter.unusedVariables false
open Go.RowKit
structure HeadM where
 num : Int
 base : Int
 tm : Int
 seen : List MarkM
def HeadM.cells (t : HeadM) : List Dat := [.int t.num] ++ ([.int t.base] ++ ([.int t.tm] ++ ([mrkD t.seen])))
def HeadM.sz (t : HeadM) : Nat := mrkSz t.seen
def HeadM.n (t : HeadM) : Nat := mrkN t.seen
def MarkedHead (t : HeadM) (k : Int) : Prop := MarkedMarkS t.seen (k)
def MadeHead (w : World) (t : HeadM) (e : Ending) (w' : World) : Prop :=
 ∃ (x0 : Int) (x1 : Int) (x2 : Int) (A3 : Option Addr) (n3 c3 : Nat), e = .returned (.agg #[.int .i64 x0, .int .i64 x1, .int .i64 x2, .slice A3 n3 c3]) ∧ Has w' w.heap.size t.cells [.int .i64 x0, .int .i64 x1, .int .i64 x2, .slice A3 n3 c3] ∧ Below w.heap.size w w'
theorem Rd.headT {w : World} {B : Nat} {t : HeadM} {v0 v1 v2 v3 : Value} (h : Rd w B t.cells [v0, v1, v2, v3]) : ∃ (A3 : Option Addr) (n3 c3 : Nat), v0 = .int .i64 t.num ∧ v1 = .int .i64 t.base ∧ v2 = .int .i64 t.tm ∧ v3 = .slice A3 n3 c3 ∧ Rd w B ([mrkD t.seen]) [.slice A3 n3 c3] := by
 have g0 : Rd w B ([.int t.num] ++ ([.int t.base] ++ ([.int t.tm] ++ ([mrkD t.seen])))) [v0, v1, v2, v3] := h
 obtain ⟨p0, g1⟩ := Rd.cut (ds := [.int t.num]) (vs := [v0]) (vs' := [v1, v2, v3]) g0 rfl
 obtain ⟨e0, _⟩ := Rd.int_cons p0
 obtain ⟨p1, g2⟩ := Rd.cut (ds := [.int t.base]) (vs := [v1]) (vs' := [v2, v3]) g1 rfl
 obtain ⟨e1, _⟩ := Rd.int_cons p1
 obtain ⟨p2, g3⟩ := Rd.cut (ds := [.int t.tm]) (vs := [v2]) (vs' := [v3]) g2 rfl
 obtain ⟨e2, _⟩ := Rd.int_cons p2
 have p3 := g3
 obtain ⟨A3, n3, c3, e3, _⟩ := Rd.mrks p3
 subst e0
 subst e1
 subst e2
 subst e3
 exact ⟨A3, n3, c3, rfl, rfl, rfl, rfl, p3⟩
theorem Ow.headT {w : World} {t : HeadM} {v0 v1 v2 v3 : Value} {fp : List Nat} (h : Ow w t.cells [v0, v1, v2, v3] fp) : ∃ f3, fp = f3 ++ ([]) ∧ Ow w ([mrkD t.seen]) [v3] f3 := by
 have g0 : Ow w ([.int t.num] ++ ([.int t.base] ++ ([.int t.tm] ++ ([mrkD t.seen] ++ ([]))))) [v0, v1, v2, v3] fp := h
 obtain ⟨_, g1⟩ := Ow.int_cons g0
 obtain ⟨_, g2⟩ := Ow.int_cons g1
 obtain ⟨_, g3⟩ := Ow.int_cons g2
 obtain ⟨f3, r3, rfl, o3, g4⟩ := Ow.cut (ds := [mrkD t.seen]) (vs := [v3]) (vs' := []) g3 rfl
 have gz := Ow.nil_foot g4
 subst gz
 exact ⟨f3, rfl, o3⟩
theorem head_n9 (t : HeadM) : t.n ≤ 9 * t.sz := by
 have h0 : mrkN t.seen ≤ 9 * (mrkSz t.seen) := (Nat.le_trans (mrkN_le t.seen) (Nat.mul_le_mul_right _ (by decide)))
 show mrkN t.seen ≤ 9 * (mrkSz t.seen)
 omega
theorem head_n_le (t : HeadM) (h : t.sz ≤ 1048577) : t.n ≤ 9437193 := by
 have := head_n9 t
 omega
set_option maxHeartbeats 6400000 in
theorem toHead_made (v0 v1 v2 v3 : Value) (t : HeadM) (w : World) (h : Rd w w.heap.size t.cells [v0, v1, v2, v3]) (hs : t.sz ≤ 1048576) : Calls Try.prog 11 #[.agg #[v0, v1, v2, v3]] w (MadeHead w t) := by
 obtain ⟨Aa3, na3, ca3, rfl, rfl, rfl, rfl, hr3⟩ := h.headT
 have S := Sep.nil w w.heap.size
 have c := Below.refl w.heap.size w
 have hz3 : mrkSz t.seen ≤ 1048576 := by unfold HeadM.sz at hs; omega
 replace S := S.boxAt c.size (w.heap.size) rfl #[.int .i64 t.num, .int .i64 t.base, .int .i64 t.tm, .slice Aa3 na3 ca3] 24
 replace c := al c S
 replace S := S.boxAt c.size (w.heap.size + 1) (by simp) #[.int .i64 0, .int .i64 0, .int .i64 0, .slice none 0 0] 29
 replace c := al c S
 replace S := S.boxAt c.size (w.heap.size + 1 + 1) (by simp) #[.int .i64 t.num, .int .i64 t.base, .int .i64 t.tm, .slice none 0 0] 29
 replace c := al c S
 go_enter Try.func11, Try.ntmps11
 go_wp2_with fail
 generalize ((w.alloc (.cells #[.int .i64 t.num, .int .i64 t.base, .int .i64 t.tm, .slice Aa3 na3 ca3] 24)).alloc (.cells #[.int .i64 0, .int .i64 0, .int .i64 0, .slice none 0 0] 29)).alloc (.cells #[.int .i64 t.num, .int .i64 t.base, .int .i64 t.tm, .slice none 0 0] 29) = w1 at *
 refine (toMarkS_made _ _ _ t.seen _ ((hr3.keep c).up c.size) hz3).mono ?_
 rintro e w2 ⟨Au3, nu3, cu3, rfl, o, b⟩
 obtain ⟨fp_u3, S'⟩ := S.has b o c.size
 replace c := c.trans (b.mono c.size)
 clear S; have S := S'; clear S' o b
 have f0 := lk S 1 3 rfl rfl
 have f1 := (S.at_ 1 rfl).free 3
 have f2 := lk S 1 0 rfl rfl
 have f3 := lk S 1 1 rfl rfl
 have f4 := lk S 1 2 rfl rfl
 have f5 := lk S 2 0 rfl rfl
 have f6 := (S.at_ 2 rfl).free 0
 have f7 := lk S 2 1 rfl rfl
 have f8 := (S.at_ 2 rfl).free 1
 have f9 := lk S 2 2 rfl rfl
 have f10 := (S.at_ 2 rfl).free 2
 have f11 := lk S 2 3 rfl rfl
 have f12 := (S.at_ 2 rfl).free 3
 replace S := S.put 1 rfl 3 (.slice Au3 nu3 cu3)
 replace c := st c S (by omega)
 replace S := S.put 2 rfl 0 (.int .i64 t.num)
 replace c := st c S (by omega)
 replace S := S.put 2 rfl 1 (.int .i64 t.base)
 replace c := st c S (by omega)
 replace S := S.put 2 rfl 2 (.int .i64 t.tm)
 replace c := st c S (by omega)
 replace S := S.put 2 rfl 3 (.slice Au3 nu3 cu3)
 replace c := st c S (by omega)
 have hzz := S.nodup
 have S2 := (S.sub ((.cons_cons _ (List.nil_sublist _)))).of_perm (is' := [.own ([mrkD t.seen]) [.slice Au3 nu3 cu3] fp_u3]) (by exact List.Perm.refl _)
 have H0 : Has _ w.heap.size t.cells [.int .i64 t.num, .int .i64 t.base, .int .i64 t.tm, .slice Au3 nu3 cu3] := ⟨fp_u3 ++ ([]), (.int (.int (.int (Ow.append (S.own_ 0 rfl) .nil)))), S2.nodup, S2.ge⟩
 have H := jd H0
 have C := jd c
 clear S S2 H0 hzz c h hr3
 go_wp2
 exact bodyPost_ret (v := .agg #[.int .i64 t.num, .int .i64 t.base, .int .i64 t.tm, .slice Au3 nu3 cu3]) (by simp [results, Try.results11, go_sem, f5, f7, f9, f11]) rfl ⟨_, _, _, _, _, _, rfl, H.out, C.out⟩
set_option maxHeartbeats 6400000 in
theorem eqHead_yes (v0 v1 v2 v3 u0 u1 u2 u3 : Value) (B B' : Nat) (t : HeadM) (w : World) (h : Rd w B t.cells [v0, v1, v2, v3]) (h' : Rd w B' t.cells [u0, u1, u2, u3]) (hB : B ≤ w.heap.size) (hB' : B' ≤ w.heap.size) (hs : t.sz ≤ 1048577) :
    Calls Try.prog 13 #[.agg #[v0, v1, v2, v3], .agg #[u0, u1, u2, u3]] w fun e w' => e = .returned (.bool true) ∧ Below w.heap.size w w' := by
 obtain ⟨Aa3, na3, ca3, rfl, rfl, rfl, rfl, hr3⟩ := h.headT
 obtain ⟨Ab3, nb3, cb3, rfl, rfl, rfl, rfl, kr3⟩ := h'.headT
 have S := Sep.nil w w.heap.size
 have c := Below.refl w.heap.size w
 have hz3 : mrkSz t.seen ≤ 1048577 := by unfold HeadM.sz at hs; omega
 replace S := S.boxAt c.size (w.heap.size) rfl #[.int .i64 t.num, .int .i64 t.base, .int .i64 t.tm, .slice Aa3 na3 ca3] 29
 replace c := al c S
 replace S := S.boxAt c.size (w.heap.size + 1) (by simp) #[.int .i64 t.num, .int .i64 t.base, .int .i64 t.tm, .slice Ab3 nb3 cb3] 29
 replace c := al c S
 go_enter Try.func13, Try.ntmps13
 go_wp2_with fail
 generalize (w.alloc (.cells #[.int .i64 t.num, .int .i64 t.base, .int .i64 t.tm, .slice Aa3 na3 ca3] 29)).alloc (.cells #[.int .i64 t.num, .int .i64 t.base, .int .i64 t.tm, .slice Ab3 nb3 cb3] 29) = w1 at *
 refine (eqMarkS_yes _ _ _ _ _ _ _ _ t.seen _ (hr3.keep (c.mono hB)) (kr3.keep (c.mono hB')) (Nat.le_trans hB c.size) (Nat.le_trans hB' c.size) hz3).mono ?_
 rintro e w2 ⟨rfl, b⟩
 replace c := c.trans (b.mono c.size)
 replace S := S.keep b
 clear b
 have C := jd c
 clear S c h h' hr3 kr3
 go_wp2
 go_ret
 exact ⟨rfl, C.out⟩
set_option maxHeartbeats 6400000 in
theorem markHead_any (v0 v1 v2 v3 : Value) (t : HeadM) (fp : List Nat) (w : World) (o : Ow w t.cells [v0, v1, v2, v3] fp) (hnd : fp.Nodup) (hs : t.sz ≤ 1048577) (k : Int) (k0 : 0 ≤ k) (k1 : k ≤ 90000000000) :
    Calls Try.prog 17 #[.agg #[v0, v1, v2, v3], .int .i64 k] w fun e w' => ∃ t', e = .returned (.int .i64 (k + (t.n : Int))) ∧ Ow w' t'.cells [v0, v1, v2, v3] fp ∧ Touch fp w w' ∧ MarkedHead t' k ∧ t'.n = t.n ∧ t'.sz = t.sz := by
 obtain ⟨Aa3, na3, ca3, rfl, rfl, rfl, rfl, _hr3⟩ := o.rd.headT
 have hz3 : mrkSz t.seen ≤ 1048577 := by unfold HeadM.sz at hs; omega
 have h9 := head_n_le t hs
 have hna : t.n = mrkN t.seen := rfl
 obtain ⟨f3, rfl, o3⟩ := Ow.headT o
 have n0 := hnd
 have n1 := (List.nodup_append.1 n0).2.1
 have S := Sep.nil w 0
 replace S := S.addOw o3 n0
 clear o o3 n0 n1
 have T := Touch.of_below ((Below.refl _ w).alloc (Nat.le_refl _) (.cells #[.int .i64 t.num, .int .i64 t.base, .int .i64 t.tm, .slice Aa3 na3 ca3] 29)) (f3 ++ ([]))
 replace S := S.boxAt (Nat.zero_le _) w.heap.size rfl #[.int .i64 t.num, .int .i64 t.base, .int .i64 t.tm, .slice Aa3 na3 ca3] 29
 go_enter Try.func17, Try.ntmps17
 go_wp2_with fail
 generalize w.alloc (.cells #[.int .i64 t.num, .int .i64 t.base, .int .i64 t.tm, .slice Aa3 na3 ca3] 29) = w1 at *
 refine (markMarkS_any _ _ _ t.seen f3 _ (S.own_ 1 rfl) (S.nodup_own 1 rfl) hz3 _ (by omega) (by omega)).mono ?_
 rintro e w2 ⟨d3, rfl, o, t', m3, en3, es3⟩
 replace T := T.trans (t'.mono (fun p hp => by simp [hp]))
 replace S := S.mark 1 rfl t' o
 clear o t'
 have M3 := jd m3
 clear m3
 have R0 : Ow _ (HeadM.cells (⟨t.num, t.base, t.tm, d3⟩)) [.int .i64 t.num, .int .i64 t.base, .int .i64 t.tm, .slice Aa3 na3 ca3] (f3 ++ ([])) := (.int (.int (.int (Ow.append (S.own_ 1 rfl) .nil))))
 have R := jd R0
 have TT := jd T
 have E := jd (And.intro hna (And.intro (en3) (es3)))
 clear S T R0 hna en3 es3
 go_wp2
 go_ret
 obtain ⟨hna, en, es⟩ := E.out
 obtain en3 := en
 obtain es3 := es
 refine ⟨⟨t.num, t.base, t.tm, d3⟩, ?_, R.out, TT.out, ?_, ?_, ?_⟩
 · refine congrArg Ending.returned (congrArg (Value.int .i64) ?_)
   omega
 · show MarkedMarkS d3 (k)
   exact M3.out
 · show mrkN d3 = mrkN t.seen
   omega
 · show mrkSz d3 = mrkSz t.seen
   omega
set_option maxHeartbeats 6400000 in
theorem heldHead_any (v0 v1 v2 v3 : Value) (t : HeadM) (B : Nat) (w : World) (h : Rd w B t.cells [v0, v1, v2, v3]) (hB : B ≤ w.heap.size) (hs : t.sz ≤ 1048577) (k : Int) (k0 : 0 ≤ k) (k1 : k ≤ 90000000000) (hm : MarkedHead t k) :
    Calls Try.prog 23 #[.agg #[v0, v1, v2, v3], .int .i64 k] w fun e w' => e = .returned (.int .i64 (k + (t.n : Int))) ∧ Below w.heap.size w w' := by
 obtain ⟨Aa3, na3, ca3, rfl, rfl, rfl, rfl, hr3⟩ := h.headT
 have S := Sep.nil w w.heap.size
 have c := Below.refl w.heap.size w
 have hz3 : mrkSz t.seen ≤ 1048577 := by unfold HeadM.sz at hs; omega
 have h9 := head_n_le t hs
 have hna : t.n = mrkN t.seen := rfl
 have m3 : MarkedMarkS t.seen k := hm
 replace S := S.boxAt c.size (w.heap.size) rfl #[.int .i64 t.num, .int .i64 t.base, .int .i64 t.tm, .slice Aa3 na3 ca3] 29
 replace c := al c S
 go_enter Try.func23, Try.ntmps23
 go_wp2_with fail
 generalize w.alloc (.cells #[.int .i64 t.num, .int .i64 t.base, .int .i64 t.tm, .slice Aa3 na3 ca3] 29) = w1 at *
 refine (heldMarkS_any _ _ _ t.seen _ _ (hr3.keep (c.mono hB)) (Nat.le_trans hB c.size) hz3 _ (by omega) (by omega) m3).mono ?_
 rintro e w2 ⟨rfl, b⟩
 replace c := c.trans (b.mono c.size)
 replace S := S.keep b
 clear b
 have q3 : ¬ (k + (mrkN t.seen : Int) < 0) := by omega
 have C := jd c
 have HN := jd hna
 clear S c h hna hr3 m3
 go_wp2
 go_ret
 refine ⟨congrArg Ending.returned (congrArg (Value.int .i64) ?_), C.out⟩
 rw [HN.out]
set_option maxHeartbeats 6400000 in
theorem szHead_any (v0 v1 v2 v3 : Value) (t : HeadM) (B : Nat) (L : Int) (w : World) (h : Rd w B t.cells [v0, v1, v2, v3]) (hB : B ≤ w.heap.size) (l0 : 0 ≤ L) (l1 : L ≤ 1048576) :
    Calls Try.prog 9 #[.agg #[v0, v1, v2, v3], .int .i64 L] w fun e w' => e = .returned (.int .i64 (left L t.sz)) ∧ Below w.heap.size w w' := by
 obtain ⟨Aa3, na3, ca3, rfl, rfl, rfl, rfl, hr3⟩ := h.headT
 have HD := jd (show t.sz = mrkSz t.seen from rfl)
 have S := Sep.nil w w.heap.size
 have c := Below.refl w.heap.size w
 replace S := S.boxAt c.size (w.heap.size) rfl #[.int .i64 t.num, .int .i64 t.base, .int .i64 t.tm, .slice Aa3 na3 ca3] 24
 replace c := al c S
 go_enter Try.func9, Try.ntmps9
 go_wp2_with fail
 generalize w.alloc (.cells #[.int .i64 t.num, .int .i64 t.base, .int .i64 t.tm, .slice Aa3 na3 ca3] 24) = w1 at *
 refine (szMarkS_any _ _ _ t.seen _ _ _ (hr3.keep (c.mono hB)) (Nat.le_trans hB c.size) (by omega) (by omega)).mono ?_
 rintro e w2 ⟨rfl, b⟩
 replace c := c.trans (b.mono c.size)
 replace S := S.keep b
 clear b
 obtain ⟨s3, hsv3⟩ : ∃ q, q = mrkSz t.seen := ⟨_, rfl⟩
 rw [← hsv3]
 have HV3 := jd hsv3
 clear hsv3
 by_cases hc3 : (s3 : Int) ≤ L
 case neg =>
  rw [left, if_neg (by omega)]
  have C := jd c
  clear S c h hr3
  go_wp2
  go_ret
  refine ⟨ret_i64 ?_, C.out⟩
  rw [left, HD.out, ← HV3.out, if_neg (by omega)]
 rw [left, if_pos (by omega)]
 have q3 : ¬ (L - (s3 : Int) < 0) := by omega
 have C := jd c
 clear S c h hr3
 go_wp2
 go_ret
 refine ⟨ret_i64 ?_, C.out⟩
 rw [left, HD.out, ← HV3.out, if_pos (by omega)]
set_option maxHeartbeats 12800000 in
theorem lawHeadOk (f : HeadM → Bool)
    (hs : ∀ (xa0_0 : Int) (xa0_1 : Int) (xa0_2 : Int) (Aa0_3 : Option Addr) (na0_3 ca0_3 : Nat) (d0 : HeadM) (w : World), Rd w w.heap.size (d0.cells) [.int .i64 xa0_0, .int .i64 xa0_1, .int .i64 xa0_2, .slice Aa0_3 na0_3 ca0_3] → d0.sz ≤ 1048576 → Calls Try.prog 10 #[.agg #[.int .i64 xa0_0, .int .i64 xa0_1, .int .i64 xa0_2, .slice Aa0_3 na0_3 ca0_3]] w (fun e w' => e = .returned (.bool (f d0)) ∧ Below w.heap.size w w'))
    (hi : ∀ (xa0_0 : Int) (xa0_1 : Int) (xa0_2 : Int) (Aa0_3 : Option Addr) (na0_3 ca0_3 : Nat) (d0 : HeadM) (w : World), Rd w w.heap.size (d0.cells) [.int .i64 xa0_0, .int .i64 xa0_1, .int .i64 xa0_2, .slice Aa0_3 na0_3 ca0_3] → d0.sz ≤ 1048576 → Calls Try.prog 12 #[.agg #[.int .i64 xa0_0, .int .i64 xa0_1, .int .i64 xa0_2, .slice Aa0_3 na0_3 ca0_3]] w (fun e w' => e = .returned (.bool (f d0)) ∧ Below w.heap.size w w'))
    (xa0_0 : Int) (xa0_1 : Int) (xa0_2 : Int) (Aa0_3 : Option Addr) (na0_3 ca0_3 : Nat) (d0 : HeadM) (w : World) (h0 : Rd w w.heap.size (d0.cells) [.int .i64 xa0_0, .int .i64 xa0_1, .int .i64 xa0_2, .slice Aa0_3 na0_3 ca0_3]) :
    Calls Try.prog 3 #[.agg #[.int .i64 xa0_0, .int .i64 xa0_1, .int .i64 xa0_2, .slice Aa0_3 na0_3 ca0_3]] w fun e w' => e = .returned (.bool true) ∧ Below w.heap.size w w' := by
 have SP := jd hs
 have IM := jd hi
 clear hs hi
 have S := Sep.nil w w.heap.size
 have c := Below.refl w.heap.size w
 replace S := S.box c.size #[.int .i64 xa0_0, .int .i64 xa0_1, .int .i64 xa0_2, .slice Aa0_3 na0_3 ca0_3] 24
 replace c := al c S
 go_enter Try.func3, Try.ntmps3
 go_wp2_with fail
 generalize w.alloc (.cells #[.int .i64 xa0_0, .int .i64 xa0_1, .int .i64 xa0_2, .slice Aa0_3 na0_3 ca0_3] 24) = w1 at *
 refine (szHead_any _ _ _ _ d0 _ _ _ (h0.keep c) c.size (by omega) (by omega)).mono ?_
 rintro e w2 ⟨rfl, b⟩
 replace c := c.trans (b.mono c.size)
 replace S := S.keep b
 clear b
 by_cases hzi0 : ((d0.sz : Nat) : Int) ≤ 1048576
 case neg =>
  rw [left, if_neg hzi0]
  go_wp2
  go_ret
  exact ⟨rfl, c⟩
 rw [left, if_pos hzi0]
 have hz0 : d0.sz ≤ 1048576 := by omega
 have qz0 : ¬ ((1048576 : Int) - (d0.sz : Int) < 0) := by omega
 obtain ⟨fx0, hfx0⟩ : ∃ q, q = (f d0) := ⟨_, rfl⟩
 have HFX0 := jd hfx0
 clear hfx0
 have f0 := lk S 0 0 rfl rfl
 have f1 := lk S 0 1 rfl rfl
 have f2 := lk S 0 2 rfl rfl
 have f3 := lk S 0 3 rfl rfl
 go_wp2_with fail
 refine (toHead_made _ _ _ _ d0 _ ((h0.keep c).up c.size) hz0).mono ?_
 rintro e w3 ⟨xs0_0, xs0_1, xs0_2, As0_3, ns0_3, cs0_3, rfl, o, b⟩
 obtain ⟨fp_s0, S'⟩ := S.has b o c.size
 replace c := c.trans (b.mono c.size)
 clear S; have S := S'; clear S' o b f0 f1 f2 f3
 go_wp2_with fail
 refine (SP.out _ _ _ _ _ _ d0 _ ((S.own_ 0 rfl).rd) hz0).mono ?_
 rintro e w4 ⟨rfl, b⟩
 replace c := c.trans (b.mono c.size)
 replace S := S.keep b
 clear b
 rw [← HFX0.out]
 have f0 := lk S 1 0 rfl rfl
 have f1 := lk S 1 1 rfl rfl
 have f2 := lk S 1 2 rfl rfl
 have f3 := lk S 1 3 rfl rfl
 go_wp2_with fail
 refine (toHead_made _ _ _ _ d0 _ ((h0.keep c).up c.size) hz0).mono ?_
 rintro e w5 ⟨xx0_0, xx0_1, xx0_2, Ax0_3, nx0_3, cx0_3, rfl, o, b⟩
 obtain ⟨fp_x0, S'⟩ := S.has b o c.size
 replace c := c.trans (b.mono c.size)
 clear S; have S := S'; clear S' o b f0 f1 f2 f3
 replace S := S.box c.size #[.int .i64 xx0_0, .int .i64 xx0_1, .int .i64 xx0_2, .slice Ax0_3 nx0_3 cx0_3] 29
 replace c := al c S
 go_wp2_with fail
 generalize w5.alloc (.cells #[.int .i64 xx0_0, .int .i64 xx0_1, .int .i64 xx0_2, .slice Ax0_3 nx0_3 cx0_3] 29) = w6 at *
 refine (IM.out _ _ _ _ _ _ d0 _ ((S.own_ 1 rfl).rd) hz0).mono ?_
 rintro e w7 ⟨rfl, b⟩
 replace c := c.trans (b.mono c.size)
 replace S := S.keep b
 clear b
 rw [← HFX0.out]
 have f0 := lk S 0 0 rfl rfl
 have f1 := lk S 0 1 rfl rfl
 have f2 := lk S 0 2 rfl rfl
 have f3 := lk S 0 3 rfl rfl
 have f4 := lk S 3 0 rfl rfl
 have f5 := lk S 3 1 rfl rfl
 have f6 := lk S 3 2 rfl rfl
 have f7 := lk S 3 3 rfl rfl
 have SH := jd S
 have CH := jd c
 clear S c
 go_wp2_with fail
 go_region_held3 (fun v => v.cell? ⟨w5.heap.size, 0, none⟩ = some (.int .i64 xx0_0) ∧ v.cell? ⟨w5.heap.size, 1, none⟩ = some (.int .i64 xx0_1) ∧ v.cell? ⟨w5.heap.size, 2, none⟩ = some (.int .i64 xx0_2) ∧ v.cell? ⟨w5.heap.size, 3, none⟩ = some (.slice Ax0_3 nx0_3 cx0_3) ∧ v.cell? ⟨w.heap.size, 0, none⟩ = some (.int .i64 xa0_0) ∧ v.cell? ⟨w.heap.size, 1, none⟩ = some (.int .i64 xa0_1) ∧ v.cell? ⟨w.heap.size, 2, none⟩ = some (.int .i64 xa0_2) ∧ v.cell? ⟨w.heap.size, 3, none⟩ = some (.slice Aa0_3 na0_3 ca0_3)) (go_keep)
  (first
   | (go_at_call 11
      refine (toHead_made _ _ _ _ d0 _ ((h0.keep CH.out.drew).up CH.out.size) hz0).mono ?_
      rintro e w8 ⟨xz0_0, xz0_1, xz0_2, Az0_3, nz0_3, cz0_3, rfl, o, b⟩
      have S1 := (SH.out.keep ((Below.refl _ _).drew)).keep b
      have g0 : (w8).cell? ⟨w5.heap.size, 0, none⟩ = some (.int .i64 xx0_0) := (S1.at_ 0 rfl).cell 0
      have g1 : (w8).cell? ⟨w5.heap.size, 1, none⟩ = some (.int .i64 xx0_1) := (S1.at_ 0 rfl).cell 1
      have g2 : (w8).cell? ⟨w5.heap.size, 2, none⟩ = some (.int .i64 xx0_2) := (S1.at_ 0 rfl).cell 2
      have g3 : (w8).cell? ⟨w5.heap.size, 3, none⟩ = some (.slice Ax0_3 nx0_3 cx0_3) := (S1.at_ 0 rfl).cell 3
      have g4 : (w8).cell? ⟨w.heap.size, 0, none⟩ = some (.int .i64 xa0_0) := (S1.at_ 3 rfl).cell 0
      have g5 : (w8).cell? ⟨w.heap.size, 1, none⟩ = some (.int .i64 xa0_1) := (S1.at_ 3 rfl).cell 1
      have g6 : (w8).cell? ⟨w.heap.size, 2, none⟩ = some (.int .i64 xa0_2) := (S1.at_ 3 rfl).cell 2
      have g7 : (w8).cell? ⟨w.heap.size, 3, none⟩ = some (.slice Aa0_3 na0_3 ca0_3) := (S1.at_ 3 rfl).cell 3
      have O1 := jd o
      have B1 := jd b
      clear S1 o b)
   | (go_at_call 13
      refine (eqHead_yes _ _ _ _ _ _ _ _ _ _ d0 _ ((((SH.out.keep ((Below.refl _ _).drew)).keep B1.out).own_ 1 rfl).rd) (O1.out.rd) (Nat.le_refl _) (Nat.le_refl _) (by omega)).mono ?_
      rintro e w9 ⟨rfl, b⟩
      have S3 := ((SH.out.keep ((Below.refl _ _).drew)).keep B1.out).keep b
      have r0 : (w9).cell? ⟨w5.heap.size, 0, none⟩ = some (.int .i64 xx0_0) := (S3.at_ 0 rfl).cell 0
      have r1 : (w9).cell? ⟨w5.heap.size, 1, none⟩ = some (.int .i64 xx0_1) := (S3.at_ 0 rfl).cell 1
      have r2 : (w9).cell? ⟨w5.heap.size, 2, none⟩ = some (.int .i64 xx0_2) := (S3.at_ 0 rfl).cell 2
      have r3 : (w9).cell? ⟨w5.heap.size, 3, none⟩ = some (.slice Ax0_3 nx0_3 cx0_3) := (S3.at_ 0 rfl).cell 3
      have r4 : (w9).cell? ⟨w.heap.size, 0, none⟩ = some (.int .i64 xa0_0) := (S3.at_ 3 rfl).cell 0
      have r5 : (w9).cell? ⟨w.heap.size, 1, none⟩ = some (.int .i64 xa0_1) := (S3.at_ 3 rfl).cell 1
      have r6 : (w9).cell? ⟨w.heap.size, 2, none⟩ = some (.int .i64 xa0_2) := (S3.at_ 3 rfl).cell 2
      have r7 : (w9).cell? ⟨w.heap.size, 3, none⟩ = some (.slice Aa0_3 na0_3 ca0_3) := (S3.at_ 3 rfl).cell 3
      have S2 := jd S3
      have C2 := jd ((CH.out.drew.trans (B1.out.mono CH.out.size)).trans (b.mono (CH.out.drew.trans (B1.out.mono CH.out.size)).size))
      clear b S3))
 have S := S2.out
 have c := C2.out
 clear SH CH S2 C2 O1 B1 f0 g0 r0 f1 g1 r1 f2 g2 r2 f3 g3 r3 f4 g4 r4 f5 g5 r5 f6 g6 r6 f7 g7 r7
 go_wp2
 go_ret
 exact ⟨rfl, c⟩
end Go.Proofs.Ytljnplalnhiidaa

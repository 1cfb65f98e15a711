/- Parts of my texts: Head. -/
import Derived.Test.YthjjdelpdiipdaaGreatDoorMX4
namespace Go.Proofs.YthjjdelpdiipdaaGreatDoor
set_option maxRecDepth 100000
set_option linter.unusedVariables false
open Go.RowKit
structure HeadM where
 num : Int
 base : Int
 tm : Int
 seen : List MarkM
def HeadM.cells (t : HeadM) : List Dat := [.int t.num] ++ ([.int t.base] ++ ([.int t.tm] ++ ([mrkD t.seen])))
def HeadM.sz (t : HeadM) : Nat := mrkSz t.seen
def HeadM.n (t : HeadM) : Nat := mrkN t.seen
def MarkedHead (t : HeadM) (k : Int) : Prop := MarkedMarkS t.seen (k)
def MadeHead (w : World) (t : HeadM) (e : Ending) (w' : World) : Prop :=
 ∃ (x0 : Int) (x1 : Int) (x2 : Int) (A3 : Option Addr) (n3 c3 : Nat), e = .returned (.agg #[.int .i64 x0, .int .i64 x1, .int .i64 x2, .slice A3 n3 c3]) ∧ Has w' w.heap.size t.cells [.int .i64 x0, .int .i64 x1, .int .i64 x2, .slice A3 n3 c3] ∧ Below w.heap.size w w'
theorem Rd.headT {w : World} {B : Nat} {t : HeadM} {v0 v1 v2 v3 : Value} (h : Rd w B t.cells [v0, v1, v2, v3]) : ∃ (A3 : Option Addr) (n3 c3 : Nat), v0 = .int .i64 t.num ∧ v1 = .int .i64 t.base ∧ v2 = .int .i64 t.tm ∧ v3 = .slice A3 n3 c3 ∧ Rd w B ([mrkD t.seen]) [.slice A3 n3 c3] := by
 have g0 : Rd w B ([.int t.num] ++ ([.int t.base] ++ ([.int t.tm] ++ ([mrkD t.seen])))) [v0, v1, v2, v3] := h
 obtain ⟨p0, g1⟩ := Rd.cut (ds := [.int t.num]) (vs := [v0]) (vs' := [v1, v2, v3]) g0 rfl
 obtain ⟨e0, _⟩ := Rd.int_cons p0
 obtain ⟨p1, g2⟩ := Rd.cut (ds := [.int t.base]) (vs := [v1]) (vs' := [v2, v3]) g1 rfl
 obtain ⟨e1, _⟩ := Rd.int_cons p1
 obtain ⟨p2, g3⟩ := Rd.cut (ds := [.int t.tm]) (vs := [v2]) (vs' := [v3]) g2 rfl
 obtain ⟨e2, _⟩ := Rd.int_cons p2
 have p3 := g3
 obtain ⟨A3, n3, c3, e3, _⟩ := Rd.mrks p3
 subst e0
 subst e1
 subst e2
 subst e3
 exact ⟨A3, n3, c3, rfl, rfl, rfl, rfl, p3⟩
theorem Ow.headT {w : World} {t : HeadM} {v0 v1 v2 v3 : Value} {fp : List Nat} (h : Ow w t.cells [v0, v1, v2, v3] fp) : ∃ f3, fp = f3 ++ ([]) ∧ Ow w ([mrkD t.seen]) [v3] f3 := by
 have g0 : Ow w ([.int t.num] ++ ([.int t.base] ++ ([.int t.tm] ++ ([mrkD t.seen] ++ ([]))))) [v0, v1, v2, v3] fp := h
 obtain ⟨_, g1⟩ := Ow.int_cons g0
 obtain ⟨_, g2⟩ := Ow.int_cons g1
 obtain ⟨_, g3⟩ := Ow.int_cons g2
 obtain ⟨f3, r3, rfl, o3, g4⟩ := Ow.cut (ds := [mrkD t.seen]) (vs := [v3]) (vs' := []) g3 rfl
 have gz := Ow.nil_foot g4
 subst gz
 exact ⟨f3, rfl, o3⟩
theorem head_n9 (t : HeadM) : t.n ≤ 9 * t.sz := by
 have h0 : mrkN t.seen ≤ 9 * (mrkSz t.seen) := (Nat.le_trans (mrkN_le t.seen) (Nat.mul_le_mul_right _ (by decide)))
 show mrkN t.seen ≤ 9 * (mrkSz t.seen)
 omega
theorem head_n_le (t : HeadM) (h : t.sz ≤ 1048577) : t.n ≤ 9437193 := by
 have := head_n9 t
 omega
set_option maxHeartbeats 6400000 in
theorem toHead_made (v0 v1 v2 v3 : Value) (t : HeadM) (w : World) (h : Rd w w.heap.size t.cells [v0, v1, v2, v3]) (hs : t.sz ≤ 1048576) : Calls Tryz.prog 39 #[.agg #[v0, v1, v2, v3]] w (MadeHead w t) := by
 obtain ⟨Aa3, na3, ca3, rfl, rfl, rfl, rfl, hr3⟩ := h.headT
 have S := Sep.nil w w.heap.size
 have c := Below.refl w.heap.size w
 have hz3 : mrkSz t.seen ≤ 1048576 := by unfold HeadM.sz at hs; omega
 replace S := S.boxAt c.size (w.heap.size) rfl #[.int .i64 t.num, .int .i64 t.base, .int .i64 t.tm, .slice Aa3 na3 ca3] 30
 replace c := al c S
 replace S := S.boxAt c.size (w.heap.size + 1) (by simp) #[.int .i64 0, .int .i64 0, .int .i64 0, .slice none 0 0] 46
 replace c := al c S
 replace S := S.boxAt c.size (w.heap.size + 1 + 1) (by simp) #[.int .i64 t.num, .int .i64 t.base, .int .i64 t.tm, .slice none 0 0] 46
 replace c := al c S
 go_enter Tryz.func39, Tryz.ntmps39
 go_wp2_with fail
 generalize ((w.alloc (.cells #[.int .i64 t.num, .int .i64 t.base, .int .i64 t.tm, .slice Aa3 na3 ca3] 30)).alloc (.cells #[.int .i64 0, .int .i64 0, .int .i64 0, .slice none 0 0] 46)).alloc (.cells #[.int .i64 t.num, .int .i64 t.base, .int .i64 t.tm, .slice none 0 0] 46) = w1 at *
 refine (toMarkS_made _ _ _ t.seen _ ((hr3.keep c).up c.size) hz3).mono ?_
 rintro e w2 ⟨Au3, nu3, cu3, rfl, o, b⟩
 obtain ⟨fp_u3, S'⟩ := S.has b o c.size
 replace c := c.trans (b.mono c.size)
 clear S; have S := S'; clear S' o b
 have f0 := lk S 1 3 rfl rfl
 have f1 := (S.at_ 1 rfl).free 3
 have f2 := lk S 1 0 rfl rfl
 have f3 := lk S 1 1 rfl rfl
 have f4 := lk S 1 2 rfl rfl
 have f5 := lk S 2 0 rfl rfl
 have f6 := (S.at_ 2 rfl).free 0
 have f7 := lk S 2 1 rfl rfl
 have f8 := (S.at_ 2 rfl).free 1
 have f9 := lk S 2 2 rfl rfl
 have f10 := (S.at_ 2 rfl).free 2
 have f11 := lk S 2 3 rfl rfl
 have f12 := (S.at_ 2 rfl).free 3
 replace S := S.put 1 rfl 3 (.slice Au3 nu3 cu3)
 replace c := st c S (by omega)
 replace S := S.put 2 rfl 0 (.int .i64 t.num)
 replace c := st c S (by omega)
 replace S := S.put 2 rfl 1 (.int .i64 t.base)
 replace c := st c S (by omega)
 replace S := S.put 2 rfl 2 (.int .i64 t.tm)
 replace c := st c S (by omega)
 replace S := S.put 2 rfl 3 (.slice Au3 nu3 cu3)
 replace c := st c S (by omega)
 have hzz := S.nodup
 have S2 := (S.sub ((.cons_cons _ (List.nil_sublist _)))).of_perm (is' := [.own ([mrkD t.seen]) [.slice Au3 nu3 cu3] fp_u3]) (by exact List.Perm.refl _)
 have H0 : Has _ w.heap.size t.cells [.int .i64 t.num, .int .i64 t.base, .int .i64 t.tm, .slice Au3 nu3 cu3] := ⟨fp_u3 ++ ([]), (.int (.int (.int (Ow.append (S.own_ 0 rfl) .nil)))), S2.nodup, S2.ge⟩
 have H := jd H0
 have C := jd c
 clear S S2 H0 hzz c h hr3
 go_wp2
 exact bodyPost_ret (v := .agg #[.int .i64 t.num, .int .i64 t.base, .int .i64 t.tm, .slice Au3 nu3 cu3]) (by simp [results, Tryz.results39, go_sem, f5, f7, f9, f11]) rfl ⟨_, _, _, _, _, _, rfl, H.out, C.out⟩
set_option maxHeartbeats 6400000 in
theorem eqHead_yes (v0 v1 v2 v3 u0 u1 u2 u3 : Value) (B B' : Nat) (t : HeadM) (w : World) (h : Rd w B t.cells [v0, v1, v2, v3]) (h' : Rd w B' t.cells [u0, u1, u2, u3]) (hB : B ≤ w.heap.size) (hB' : B' ≤ w.heap.size) (hs : t.sz ≤ 1048577) :
    Calls Tryz.prog 45 #[.agg #[v0, v1, v2, v3], .agg #[u0, u1, u2, u3]] w fun e w' => e = .returned (.bool true) ∧ Below w.heap.size w w' := by
 obtain ⟨Aa3, na3, ca3, rfl, rfl, rfl, rfl, hr3⟩ := h.headT
 obtain ⟨Ab3, nb3, cb3, rfl, rfl, rfl, rfl, kr3⟩ := h'.headT
 have S := Sep.nil w w.heap.size
 have c := Below.refl w.heap.size w
 have hz3 : mrkSz t.seen ≤ 1048577 := by unfold HeadM.sz at hs; omega
 replace S := S.boxAt c.size (w.heap.size) rfl #[.int .i64 t.num, .int .i64 t.base, .int .i64 t.tm, .slice Aa3 na3 ca3] 46
 replace c := al c S
 replace S := S.boxAt c.size (w.heap.size + 1) (by simp) #[.int .i64 t.num, .int .i64 t.base, .int .i64 t.tm, .slice Ab3 nb3 cb3] 46
 replace c := al c S
 go_enter Tryz.func45, Tryz.ntmps45
 go_wp2_with fail
 generalize (w.alloc (.cells #[.int .i64 t.num, .int .i64 t.base, .int .i64 t.tm, .slice Aa3 na3 ca3] 46)).alloc (.cells #[.int .i64 t.num, .int .i64 t.base, .int .i64 t.tm, .slice Ab3 nb3 cb3] 46) = w1 at *
 refine (eqMarkS_yes _ _ _ _ _ _ _ _ t.seen _ (hr3.keep (c.mono hB)) (kr3.keep (c.mono hB')) (Nat.le_trans hB c.size) (Nat.le_trans hB' c.size) hz3).mono ?_
 rintro e w2 ⟨rfl, b⟩
 replace c := c.trans (b.mono c.size)
 replace S := S.keep b
 clear b
 have C := jd c
 clear S c h h' hr3 kr3
 go_wp2
 go_ret
 exact ⟨rfl, C.out⟩
set_option maxHeartbeats 6400000 in
theorem markHead_any (v0 v1 v2 v3 : Value) (t : HeadM) (fp : List Nat) (w : World) (o : Ow w t.cells [v0, v1, v2, v3] fp) (hnd : fp.Nodup) (hs : t.sz ≤ 1048577) (k : Int) (k0 : 0 ≤ k) (k1 : k ≤ 90000000000) :
    Calls Tryz.prog 53 #[.agg #[v0, v1, v2, v3], .int .i64 k] w fun e w' => ∃ t', e = .returned (.int .i64 (k + (t.n : Int))) ∧ Ow w' t'.cells [v0, v1, v2, v3] fp ∧ Touch fp w w' ∧ MarkedHead t' k ∧ t'.n = t.n ∧ t'.sz = t.sz := by
 obtain ⟨Aa3, na3, ca3, rfl, rfl, rfl, rfl, _hr3⟩ := o.rd.headT
 have hz3 : mrkSz t.seen ≤ 1048577 := by unfold HeadM.sz at hs; omega
 have h9 := head_n_le t hs
 have hna : t.n = mrkN t.seen := rfl
 obtain ⟨f3, rfl, o3⟩ := Ow.headT o
 have n0 := hnd
 have n1 := (List.nodup_append.1 n0).2.1
 have S := Sep.nil w 0
 replace S := S.addOw o3 n0
 clear o o3 n0 n1
 have T := Touch.of_below ((Below.refl _ w).alloc (Nat.le_refl _) (.cells #[.int .i64 t.num, .int .i64 t.base, .int .i64 t.tm, .slice Aa3 na3 ca3] 46)) (f3 ++ ([]))
 replace S := S.boxAt (Nat.zero_le _) w.heap.size rfl #[.int .i64 t.num, .int .i64 t.base, .int .i64 t.tm, .slice Aa3 na3 ca3] 46
 go_enter Tryz.func53, Tryz.ntmps53
 go_wp2_with fail
 generalize w.alloc (.cells #[.int .i64 t.num, .int .i64 t.base, .int .i64 t.tm, .slice Aa3 na3 ca3] 46) = w1 at *
 refine (markMarkS_any _ _ _ t.seen f3 _ (S.own_ 1 rfl) (S.nodup_own 1 rfl) hz3 _ (by omega) (by omega)).mono ?_
 rintro e w2 ⟨d3, rfl, o, t', m3, en3, es3⟩
 replace T := T.trans (t'.mono (fun p hp => by simp [hp]))
 replace S := S.mark 1 rfl t' o
 clear o t'
 have M3 := jd m3
 clear m3
 have R0 : Ow _ (HeadM.cells (⟨t.num, t.base, t.tm, d3⟩)) [.int .i64 t.num, .int .i64 t.base, .int .i64 t.tm, .slice Aa3 na3 ca3] (f3 ++ ([])) := (.int (.int (.int (Ow.append (S.own_ 1 rfl) .nil))))
 have R := jd R0
 have TT := jd T
 have E := jd (And.intro hna (And.intro (en3) (es3)))
 clear S T R0 hna en3 es3
 go_wp2
 go_ret
 obtain ⟨hna, en, es⟩ := E.out
 obtain en3 := en
 obtain es3 := es
 refine ⟨⟨t.num, t.base, t.tm, d3⟩, ?_, R.out, TT.out, ?_, ?_, ?_⟩
 · refine congrArg Ending.returned (congrArg (Value.int .i64) ?_)
   omega
 · show MarkedMarkS d3 (k)
   exact M3.out
 · show mrkN d3 = mrkN t.seen
   omega
 · show mrkSz d3 = mrkSz t.seen
   omega
set_option maxHeartbeats 6400000 in
theorem szHead_any (v0 v1 v2 v3 : Value) (t : HeadM) (B : Nat) (L : Int) (w : World) (h : Rd w B t.cells [v0, v1, v2, v3]) (hB : B ≤ w.heap.size) (l0 : 0 ≤ L) (l1 : L ≤ 1048576) :
    Calls Tryz.prog 24 #[.agg #[v0, v1, v2, v3], .int .i64 L] w fun e w' => e = .returned (.int .i64 (left L t.sz)) ∧ Below w.heap.size w w' := by
 obtain ⟨Aa3, na3, ca3, rfl, rfl, rfl, rfl, hr3⟩ := h.headT
 have HD := jd (show t.sz = mrkSz t.seen from rfl)
 have S := Sep.nil w w.heap.size
 have c := Below.refl w.heap.size w
 replace S := S.boxAt c.size (w.heap.size) rfl #[.int .i64 t.num, .int .i64 t.base, .int .i64 t.tm, .slice Aa3 na3 ca3] 30
 replace c := al c S
 go_enter Tryz.func24, Tryz.ntmps24
 go_wp2_with fail
 generalize w.alloc (.cells #[.int .i64 t.num, .int .i64 t.base, .int .i64 t.tm, .slice Aa3 na3 ca3] 30) = w1 at *
 refine (szMarkS_any _ _ _ t.seen _ _ _ (hr3.keep (c.mono hB)) (Nat.le_trans hB c.size) (by omega) (by omega)).mono ?_
 rintro e w2 ⟨rfl, b⟩
 replace c := c.trans (b.mono c.size)
 replace S := S.keep b
 clear b
 obtain ⟨s3, hsv3⟩ : ∃ q, q = mrkSz t.seen := ⟨_, rfl⟩
 rw [← hsv3]
 have HV3 := jd hsv3
 clear hsv3
 by_cases hc3 : (s3 : Int) ≤ L
 case neg =>
  rw [left, if_neg (by omega)]
  have C := jd c
  clear S c h hr3
  go_wp2
  go_ret
  refine ⟨ret_i64 ?_, C.out⟩
  rw [left, HD.out, ← HV3.out, if_neg (by omega)]
 rw [left, if_pos (by omega)]
 have q3 : ¬ (L - (s3 : Int) < 0) := by omega
 have C := jd c
 clear S c h hr3
 go_wp2
 go_ret
 refine ⟨ret_i64 ?_, C.out⟩
 rw [left, HD.out, ← HV3.out, if_pos (by omega)]
end Go.Proofs.YthjjdelpdiipdaaGreatDoor

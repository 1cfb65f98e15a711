/- Parts of my texts: Head Ent EntM MarkM MarkN. -/
import Derived.Test.YtecihkkagpbkdaaK5
namespace Go.Proofs.Ytecihkkagpbkdaa
set_option maxRecDepth 100000
set_option linter.unusedVariables false
open Go.RowKit
structure HeadM where
 num : Int
 base : Int
 tm : Int
 seen : List MarkM
def HeadM.cells (t : HeadM) : List Dat := [.int t.num] ++ ([.int t.base] ++ ([.int t.tm] ++ ([mrkD t.seen])))
def HeadM.sz (t : HeadM) : Nat := mrkSz t.seen
def HeadM.n (t : HeadM) : Nat := mrkN t.seen
def MarkedHead (t : HeadM) (k : Int) : Prop := MarkedMarkS t.seen (k)
def MadeHead (w : World) (t : HeadM) (e : Ending) (w' : World) : Prop :=
 ∃ (x0 : Int) (x1 : Int) (x2 : Int) (A3 : Option Addr) (n3 c3 : Nat), e = .returned (.agg #[.int .i64 x0, .int .i64 x1, .int .i64 x2, .slice A3 n3 c3]) ∧ Has w' w.heap.size t.cells [.int .i64 x0, .int .i64 x1, .int .i64 x2, .slice A3 n3 c3] ∧ Below w.heap.size w w'
theorem Rd.headT {w : World} {B : Nat} {t : HeadM} {v0 v1 v2 v3 : Value} (h : Rd w B t.cells [v0, v1, v2, v3]) : ∃ (A3 : Option Addr) (n3 c3 : Nat), v0 = .int .i64 t.num ∧ v1 = .int .i64 t.base ∧ v2 = .int .i64 t.tm ∧ v3 = .slice A3 n3 c3 ∧ Rd w B ([mrkD t.seen]) [.slice A3 n3 c3] := by
 have g0 : Rd w B ([.int t.num] ++ ([.int t.base] ++ ([.int t.tm] ++ ([mrkD t.seen])))) [v0, v1, v2, v3] := h
 obtain ⟨p0, g1⟩ := Rd.cut (ds := [.int t.num]) (vs := [v0]) (vs' := [v1, v2, v3]) g0 rfl
 obtain ⟨e0, _⟩ := Rd.int_cons p0
 obtain ⟨p1, g2⟩ := Rd.cut (ds := [.int t.base]) (vs := [v1]) (vs' := [v2, v3]) g1 rfl
 obtain ⟨e1, _⟩ := Rd.int_cons p1
 obtain ⟨p2, g3⟩ := Rd.cut (ds := [.int t.tm]) (vs := [v2]) (vs' := [v3]) g2 rfl
 obtain ⟨e2, _⟩ := Rd.int_cons p2
 have p3 := g3
 obtain ⟨A3, n3, c3, e3, _⟩ := Rd.mrks p3
 subst e0
 subst e1
 subst e2
 subst e3
 exact ⟨A3, n3, c3, rfl, rfl, rfl, rfl, p3⟩
theorem Ow.headT {w : World} {t : HeadM} {v0 v1 v2 v3 : Value} {fp : List Nat} (h : Ow w t.cells [v0, v1, v2, v3] fp) : ∃ f3, fp = f3 ++ ([]) ∧ Ow w ([mrkD t.seen]) [v3] f3 := by
 have g0 : Ow w ([.int t.num] ++ ([.int t.base] ++ ([.int t.tm] ++ ([mrkD t.seen] ++ ([]))))) [v0, v1, v2, v3] fp := h
 obtain ⟨_, g1⟩ := Ow.int_cons g0
 obtain ⟨_, g2⟩ := Ow.int_cons g1
 obtain ⟨_, g3⟩ := Ow.int_cons g2
 obtain ⟨f3, r3, rfl, o3, g4⟩ := Ow.cut (ds := [mrkD t.seen]) (vs := [v3]) (vs' := []) g3 rfl
 have gz := Ow.nil_foot g4
 subst gz
 exact ⟨f3, rfl, o3⟩
theorem head_n9 (t : HeadM) : t.n ≤ 9 * t.sz := by
 have h0 : mrkN t.seen ≤ 9 * (mrkSz t.seen) := (Nat.le_trans (mrkN_le t.seen) (Nat.mul_le_mul_right _ (by decide)))
 show mrkN t.seen ≤ 9 * (mrkSz t.seen)
 omega
theorem head_n_le (t : HeadM) (h : t.sz ≤ 1048577) : t.n ≤ 9437193 := by
 have := head_n9 t
 omega
set_option maxHeartbeats 6400000 in
theorem toHead_made (v0 v1 v2 v3 : Value) (t : HeadM) (w : World) (h : Rd w w.heap.size t.cells [v0, v1, v2, v3]) (hs : t.sz ≤ 1048576) : Calls Try.prog 22 #[.agg #[v0, v1, v2, v3]] w (MadeHead w t) := by
 obtain ⟨Aa3, na3, ca3, rfl, rfl, rfl, rfl, hr3⟩ := h.headT
 have S := Sep.nil w w.heap.size
 have c := Below.refl w.heap.size w
 have hz3 : mrkSz t.seen ≤ 1048576 := by unfold HeadM.sz at hs; omega
 replace S := S.boxAt c.size (w.heap.size) rfl #[.int .i64 t.num, .int .i64 t.base, .int .i64 t.tm, .slice Aa3 na3 ca3] 54
 replace c := al c S
 replace S := S.boxAt c.size (w.heap.size + 1) (by simp) #[.int .i64 0, .int .i64 0, .int .i64 0, .slice none 0 0] 59
 replace c := al c S
 replace S := S.boxAt c.size (w.heap.size + 1 + 1) (by simp) #[.int .i64 t.num, .int .i64 t.base, .int .i64 t.tm, .slice none 0 0] 59
 replace c := al c S
 go_enter Try.func22, Try.ntmps22
 go_wp2_with fail
 generalize ((w.alloc (.cells #[.int .i64 t.num, .int .i64 t.base, .int .i64 t.tm, .slice Aa3 na3 ca3] 54)).alloc (.cells #[.int .i64 0, .int .i64 0, .int .i64 0, .slice none 0 0] 59)).alloc (.cells #[.int .i64 t.num, .int .i64 t.base, .int .i64 t.tm, .slice none 0 0] 59) = w1 at *
 refine (toMarkS_made _ _ _ t.seen _ ((hr3.keep c).up c.size) hz3).mono ?_
 rintro e w2 ⟨Au3, nu3, cu3, rfl, o, b⟩
 obtain ⟨fp_u3, S'⟩ := S.has b o c.size
 replace c := c.trans (b.mono c.size)
 clear S; have S := S'; clear S' o b
 have f0 := lk S 1 3 rfl rfl
 have f1 := (S.at_ 1 rfl).free 3
 have f2 := lk S 1 0 rfl rfl
 have f3 := lk S 1 1 rfl rfl
 have f4 := lk S 1 2 rfl rfl
 have f5 := lk S 2 0 rfl rfl
 have f6 := (S.at_ 2 rfl).free 0
 have f7 := lk S 2 1 rfl rfl
 have f8 := (S.at_ 2 rfl).free 1
 have f9 := lk S 2 2 rfl rfl
 have f10 := (S.at_ 2 rfl).free 2
 have f11 := lk S 2 3 rfl rfl
 have f12 := (S.at_ 2 rfl).free 3
 replace S := S.put 1 rfl 3 (.slice Au3 nu3 cu3)
 replace c := st c S (by omega)
 replace S := S.put 2 rfl 0 (.int .i64 t.num)
 replace c := st c S (by omega)
 replace S := S.put 2 rfl 1 (.int .i64 t.base)
 replace c := st c S (by omega)
 replace S := S.put 2 rfl 2 (.int .i64 t.tm)
 replace c := st c S (by omega)
 replace S := S.put 2 rfl 3 (.slice Au3 nu3 cu3)
 replace c := st c S (by omega)
 have hzz := S.nodup
 have S2 := (S.sub ((.cons_cons _ (List.nil_sublist _)))).of_perm (is' := [.own ([mrkD t.seen]) [.slice Au3 nu3 cu3] fp_u3]) (by exact List.Perm.refl _)
 have H0 : Has _ w.heap.size t.cells [.int .i64 t.num, .int .i64 t.base, .int .i64 t.tm, .slice Au3 nu3 cu3] := ⟨fp_u3 ++ ([]), (.int (.int (.int (Ow.append (S.own_ 0 rfl) .nil)))), S2.nodup, S2.ge⟩
 have H := jd H0
 have C := jd c
 clear S S2 H0 hzz c h hr3
 go_wp2
 exact bodyPost_ret (v := .agg #[.int .i64 t.num, .int .i64 t.base, .int .i64 t.tm, .slice Au3 nu3 cu3]) (by simp [results, Try.results22, go_sem, f5, f7, f9, f11]) rfl ⟨_, _, _, _, _, _, rfl, H.out, C.out⟩
set_option maxHeartbeats 6400000 in
theorem eqHead_yes (v0 v1 v2 v3 u0 u1 u2 u3 : Value) (B B' : Nat) (t : HeadM) (w : World) (h : Rd w B t.cells [v0, v1, v2, v3]) (h' : Rd w B' t.cells [u0, u1, u2, u3]) (hB : B ≤ w.heap.size) (hB' : B' ≤ w.heap.size) (hs : t.sz ≤ 1048577) :
    Calls Try.prog 24 #[.agg #[v0, v1, v2, v3], .agg #[u0, u1, u2, u3]] w fun e w' => e = .returned (.bool true) ∧ Below w.heap.size w w' := by
 obtain ⟨Aa3, na3, ca3, rfl, rfl, rfl, rfl, hr3⟩ := h.headT
 obtain ⟨Ab3, nb3, cb3, rfl, rfl, rfl, rfl, kr3⟩ := h'.headT
 have S := Sep.nil w w.heap.size
 have c := Below.refl w.heap.size w
 have hz3 : mrkSz t.seen ≤ 1048577 := by unfold HeadM.sz at hs; omega
 replace S := S.boxAt c.size (w.heap.size) rfl #[.int .i64 t.num, .int .i64 t.base, .int .i64 t.tm, .slice Aa3 na3 ca3] 59
 replace c := al c S
 replace S := S.boxAt c.size (w.heap.size + 1) (by simp) #[.int .i64 t.num, .int .i64 t.base, .int .i64 t.tm, .slice Ab3 nb3 cb3] 59
 replace c := al c S
 go_enter Try.func24, Try.ntmps24
 go_wp2_with fail
 generalize (w.alloc (.cells #[.int .i64 t.num, .int .i64 t.base, .int .i64 t.tm, .slice Aa3 na3 ca3] 59)).alloc (.cells #[.int .i64 t.num, .int .i64 t.base, .int .i64 t.tm, .slice Ab3 nb3 cb3] 59) = w1 at *
 refine (eqMarkS_yes _ _ _ _ _ _ _ _ t.seen _ (hr3.keep (c.mono hB)) (kr3.keep (c.mono hB')) (Nat.le_trans hB c.size) (Nat.le_trans hB' c.size) hz3).mono ?_
 rintro e w2 ⟨rfl, b⟩
 replace c := c.trans (b.mono c.size)
 replace S := S.keep b
 clear b
 have C := jd c
 clear S c h h' hr3 kr3
 go_wp2
 go_ret
 exact ⟨rfl, C.out⟩
set_option maxHeartbeats 6400000 in
theorem markHead_any (v0 v1 v2 v3 : Value) (t : HeadM) (fp : List Nat) (w : World) (o : Ow w t.cells [v0, v1, v2, v3] fp) (hnd : fp.Nodup) (hs : t.sz ≤ 1048577) (k : Int) (k0 : 0 ≤ k) (k1 : k ≤ 90000000000) :
    Calls Try.prog 25 #[.agg #[v0, v1, v2, v3], .int .i64 k] w fun e w' => ∃ t', e = .returned (.int .i64 (k + (t.n : Int))) ∧ Ow w' t'.cells [v0, v1, v2, v3] fp ∧ Touch fp w w' ∧ MarkedHead t' k ∧ t'.n = t.n ∧ t'.sz = t.sz := by
 obtain ⟨Aa3, na3, ca3, rfl, rfl, rfl, rfl, _hr3⟩ := o.rd.headT
 have hz3 : mrkSz t.seen ≤ 1048577 := by unfold HeadM.sz at hs; omega
 have h9 := head_n_le t hs
 have hna : t.n = mrkN t.seen := rfl
 obtain ⟨f3, rfl, o3⟩ := Ow.headT o
 have n0 := hnd
 have n1 := (List.nodup_append.1 n0).2.1
 have S := Sep.nil w 0
 replace S := S.addOw o3 n0
 clear o o3 n0 n1
 have T := Touch.of_below ((Below.refl _ w).alloc (Nat.le_refl _) (.cells #[.int .i64 t.num, .int .i64 t.base, .int .i64 t.tm, .slice Aa3 na3 ca3] 59)) (f3 ++ ([]))
 replace S := S.boxAt (Nat.zero_le _) w.heap.size rfl #[.int .i64 t.num, .int .i64 t.base, .int .i64 t.tm, .slice Aa3 na3 ca3] 59
 go_enter Try.func25, Try.ntmps25
 go_wp2_with fail
 generalize w.alloc (.cells #[.int .i64 t.num, .int .i64 t.base, .int .i64 t.tm, .slice Aa3 na3 ca3] 59) = w1 at *
 refine (markMarkS_any _ _ _ t.seen f3 _ (S.own_ 1 rfl) (S.nodup_own 1 rfl) hz3 _ (by omega) (by omega)).mono ?_
 rintro e w2 ⟨d3, rfl, o, t', m3, en3, es3⟩
 replace T := T.trans (t'.mono (fun p hp => by simp [hp]))
 replace S := S.mark 1 rfl t' o
 clear o t'
 have M3 := jd m3
 clear m3
 have R0 : Ow _ (HeadM.cells (⟨t.num, t.base, t.tm, d3⟩)) [.int .i64 t.num, .int .i64 t.base, .int .i64 t.tm, .slice Aa3 na3 ca3] (f3 ++ ([])) := (.int (.int (.int (Ow.append (S.own_ 1 rfl) .nil))))
 have R := jd R0
 have TT := jd T
 have E := jd (And.intro hna (And.intro (en3) (es3)))
 clear S T R0 hna en3 es3
 go_wp2
 go_ret
 obtain ⟨hna, en, es⟩ := E.out
 obtain en3 := en
 obtain es3 := es
 refine ⟨⟨t.num, t.base, t.tm, d3⟩, ?_, R.out, TT.out, ?_, ?_, ?_⟩
 · refine congrArg Ending.returned (congrArg (Value.int .i64) ?_)
   omega
 · show MarkedMarkS d3 (k)
   exact M3.out
 · show mrkN d3 = mrkN t.seen
   omega
 · show mrkSz d3 = mrkSz t.seen
   omega
set_option maxHeartbeats 6400000 in
theorem heldHead_any (v0 v1 v2 v3 : Value) (t : HeadM) (B : Nat) (w : World) (h : Rd w B t.cells [v0, v1, v2, v3]) (hB : B ≤ w.heap.size) (hs : t.sz ≤ 1048577) (k : Int) (k0 : 0 ≤ k) (k1 : k ≤ 90000000000) (hm : MarkedHead t k) :
    Calls Try.prog 28 #[.agg #[v0, v1, v2, v3], .int .i64 k] w fun e w' => e = .returned (.int .i64 (k + (t.n : Int))) ∧ Below w.heap.size w w' := by
 obtain ⟨Aa3, na3, ca3, rfl, rfl, rfl, rfl, hr3⟩ := h.headT
 have S := Sep.nil w w.heap.size
 have c := Below.refl w.heap.size w
 have hz3 : mrkSz t.seen ≤ 1048577 := by unfold HeadM.sz at hs; omega
 have h9 := head_n_le t hs
 have hna : t.n = mrkN t.seen := rfl
 have m3 : MarkedMarkS t.seen k := hm
 replace S := S.boxAt c.size (w.heap.size) rfl #[.int .i64 t.num, .int .i64 t.base, .int .i64 t.tm, .slice Aa3 na3 ca3] 59
 replace c := al c S
 go_enter Try.func28, Try.ntmps28
 go_wp2_with fail
 generalize w.alloc (.cells #[.int .i64 t.num, .int .i64 t.base, .int .i64 t.tm, .slice Aa3 na3 ca3] 59) = w1 at *
 refine (heldMarkS_any _ _ _ t.seen _ _ (hr3.keep (c.mono hB)) (Nat.le_trans hB c.size) hz3 _ (by omega) (by omega) m3).mono ?_
 rintro e w2 ⟨rfl, b⟩
 replace c := c.trans (b.mono c.size)
 replace S := S.keep b
 clear b
 have q3 : ¬ (k + (mrkN t.seen : Int) < 0) := by omega
 have C := jd c
 have HN := jd hna
 clear S c h hna hr3 m3
 go_wp2
 go_ret
 refine ⟨congrArg Ending.returned (congrArg (Value.int .i64) ?_), C.out⟩
 rw [HN.out]
set_option maxHeartbeats 6400000 in
theorem szHead_any (v0 v1 v2 v3 : Value) (t : HeadM) (B : Nat) (L : Int) (w : World) (h : Rd w B t.cells [v0, v1, v2, v3]) (hB : B ≤ w.heap.size) (l0 : 0 ≤ L) (l1 : L ≤ 1048576) :
    Calls Try.prog 20 #[.agg #[v0, v1, v2, v3], .int .i64 L] w fun e w' => e = .returned (.int .i64 (left L t.sz)) ∧ Below w.heap.size w w' := by
 obtain ⟨Aa3, na3, ca3, rfl, rfl, rfl, rfl, hr3⟩ := h.headT
 have HD := jd (show t.sz = mrkSz t.seen from rfl)
 have S := Sep.nil w w.heap.size
 have c := Below.refl w.heap.size w
 replace S := S.boxAt c.size (w.heap.size) rfl #[.int .i64 t.num, .int .i64 t.base, .int .i64 t.tm, .slice Aa3 na3 ca3] 54
 replace c := al c S
 go_enter Try.func20, Try.ntmps20
 go_wp2_with fail
 generalize w.alloc (.cells #[.int .i64 t.num, .int .i64 t.base, .int .i64 t.tm, .slice Aa3 na3 ca3] 54) = w1 at *
 refine (szMarkS_any _ _ _ t.seen _ _ _ (hr3.keep (c.mono hB)) (Nat.le_trans hB c.size) (by omega) (by omega)).mono ?_
 rintro e w2 ⟨rfl, b⟩
 replace c := c.trans (b.mono c.size)
 replace S := S.keep b
 clear b
 obtain ⟨s3, hsv3⟩ : ∃ q, q = mrkSz t.seen := ⟨_, rfl⟩
 rw [← hsv3]
 have HV3 := jd hsv3
 clear hsv3
 by_cases hc3 : (s3 : Int) ≤ L
 case neg =>
  rw [left, if_neg (by omega)]
  have C := jd c
  clear S c h hr3
  go_wp2
  go_ret
  refine ⟨ret_i64 ?_, C.out⟩
  rw [left, HD.out, ← HV3.out, if_neg (by omega)]
 rw [left, if_pos (by omega)]
 have q3 : ¬ (L - (s3 : Int) < 0) := by omega
 have C := jd c
 clear S c h hr3
 go_wp2
 go_ret
 refine ⟨ret_i64 ?_, C.out⟩
 rw [left, HD.out, ← HV3.out, if_pos (by omega)]
structure OpM where
 kind : Int
 a : Int
 b : Int
 c : Int
 d : Int
def opC (x : OpM) : List Dat := [.int x.kind, .int x.a, .int x.b, .int x.c, .int x.d]
set_option maxHeartbeats 1600000 in
theorem toOp_any (x0 x1 x2 x3 x4 : Int) (w : World) :
    Calls Try.prog 48 #[.agg #[.int .i64 x0, .int .i64 x1, .int .i64 x2, .int .i64 x3, .int .i64 x4]] w fun e w' => e = .returned (.agg #[.int .i64 x0, .int .i64 x1, .int .i64 x2, .int .i64 x3, .int .i64 x4]) ∧ Below w.heap.size w w' := by
 have C := jd ((((Below.refl w.heap.size w).alloc (Nat.le_refl _) (.cells #[.int .i64 x0, .int .i64 x1, .int .i64 x2, .int .i64 x3, .int .i64 x4] 42)).alloc (by simp) (.cells #[.int .i64 x0, .int .i64 x1, .int .i64 x2, .int .i64 x3, .int .i64 x4] 47)).alloc (by simp; omega) (.cells #[.int .i64 x0, .int .i64 x1, .int .i64 x2, .int .i64 x3, .int .i64 x4] 47))
 go_enter Try.func48, Try.ntmps48
 go_wp2
 exact bodyPost_ret (v := .agg #[.int .i64 x0, .int .i64 x1, .int .i64 x2, .int .i64 x3, .int .i64 x4]) (by simp [results, Try.results48, go_sem]) rfl ⟨rfl, C.out⟩
structure EntM where
 idx : Int
 tm : Int
 cl : Int
 sq : Int
 kd : Int
 oa : Int
 ob : Int
 oc : Int
 od : Int
def entC (x : EntM) : List Dat := [.int x.idx, .int x.tm, .int x.cl, .int x.sq, .int x.kd, .int x.oa, .int x.ob, .int x.oc, .int x.od]
def entNs (x : EntM) : List Int := x.idx :: x.tm :: x.cl :: x.sq :: x.kd :: x.oa :: x.ob :: x.oc :: x.od :: []
set_option maxHeartbeats 3200000 in
theorem toEntry_any (x0 x1 x2 x3 x4 x5 x6 x7 x8 : Int) (w : World) :
    Calls Try.prog 18 #[.agg #[.int .i64 x0, .int .i64 x1, .int .i64 x2, .int .i64 x3, .int .i64 x4, .int .i64 x5, .int .i64 x6, .int .i64 x7, .int .i64 x8]] w fun e w' => e = .returned (.agg #[.int .i64 x0, .int .i64 x1, .int .i64 x2, .int .i64 x3, .int .i64 x4, .int .i64 x5, .int .i64 x6, .int .i64 x7, .int .i64 x8]) ∧ Below w.heap.size w w' := by
 have S := Sep.nil w w.heap.size
 have c := Below.refl w.heap.size w
 replace S := S.boxAt c.size (w.heap.size) rfl #[.int .i64 x0, .int .i64 x1, .int .i64 x2, .int .i64 x3, .int .i64 x4, .int .i64 x5, .int .i64 x6, .int .i64 x7, .int .i64 x8] 44
 replace c := al c S
 replace S := S.boxAt c.size (w.heap.size + 1) (by simp) #[.int .i64 0, .int .i64 0, .int .i64 0, .int .i64 0, .int .i64 0, .int .i64 0, .int .i64 0, .int .i64 0, .int .i64 0] 49
 replace c := al c S
 replace S := S.boxAt c.size (w.heap.size + 1 + 1) (by simp) #[.int .i64 x0, .int .i64 x1, .int .i64 x2, .int .i64 x3, .int .i64 0, .int .i64 0, .int .i64 0, .int .i64 0, .int .i64 0] 49
 replace c := al c S
 go_enter Try.func18, Try.ntmps18
 have f0 := lk S 2 4 rfl rfl
 have f1 := lk S 2 5 rfl rfl
 have f2 := lk S 2 6 rfl rfl
 have f3 := lk S 2 7 rfl rfl
 have f4 := lk S 2 8 rfl rfl
 go_wp2_with fail
 generalize ((w.alloc (.cells #[.int .i64 x0, .int .i64 x1, .int .i64 x2, .int .i64 x3, .int .i64 x4, .int .i64 x5, .int .i64 x6, .int .i64 x7, .int .i64 x8] 44)).alloc (.cells #[.int .i64 0, .int .i64 0, .int .i64 0, .int .i64 0, .int .i64 0, .int .i64 0, .int .i64 0, .int .i64 0, .int .i64 0] 49)).alloc (.cells #[.int .i64 x0, .int .i64 x1, .int .i64 x2, .int .i64 x3, .int .i64 0, .int .i64 0, .int .i64 0, .int .i64 0, .int .i64 0] 49) = w1 at *
 refine (toOp_any x4 x5 x6 x7 x8 _).mono ?_
 rintro e w2 ⟨rfl, b⟩
 replace c := c.trans (b.mono c.size)
 replace S := S.keep b
 clear b f0 f1 f2 f3 f4
 have f5 := lk S 0 0 rfl rfl
 have f6 := (S.at_ 0 rfl).free 0
 have f7 := lk S 0 1 rfl rfl
 have f8 := (S.at_ 0 rfl).free 1
 have f9 := lk S 0 2 rfl rfl
 have f10 := (S.at_ 0 rfl).free 2
 have f11 := lk S 0 3 rfl rfl
 have f12 := (S.at_ 0 rfl).free 3
 have f13 := lk S 0 4 rfl rfl
 have f14 := (S.at_ 0 rfl).free 4
 have f15 := lk S 0 5 rfl rfl
 have f16 := (S.at_ 0 rfl).free 5
 have f17 := lk S 0 6 rfl rfl
 have f18 := (S.at_ 0 rfl).free 6
 have f19 := lk S 0 7 rfl rfl
 have f20 := (S.at_ 0 rfl).free 7
 have f21 := lk S 0 8 rfl rfl
 have f22 := (S.at_ 0 rfl).free 8
 have f23 := lk S 1 0 rfl rfl
 have f24 := (S.at_ 1 rfl).free 0
 have f25 := lk S 1 1 rfl rfl
 have f26 := (S.at_ 1 rfl).free 1
 have f27 := lk S 1 2 rfl rfl
 have f28 := (S.at_ 1 rfl).free 2
 have f29 := lk S 1 3 rfl rfl
 have f30 := (S.at_ 1 rfl).free 3
 have f31 := lk S 1 4 rfl rfl
 have f32 := (S.at_ 1 rfl).free 4
 have f33 := lk S 1 5 rfl rfl
 have f34 := (S.at_ 1 rfl).free 5
 have f35 := lk S 1 6 rfl rfl
 have f36 := (S.at_ 1 rfl).free 6
 have f37 := lk S 1 7 rfl rfl
 have f38 := (S.at_ 1 rfl).free 7
 have f39 := lk S 1 8 rfl rfl
 have f40 := (S.at_ 1 rfl).free 8
 replace S := S.put 0 rfl 4 (.int .i64 x4)
 replace c := st c S (by omega)
 replace S := S.put 0 rfl 5 (.int .i64 x5)
 replace c := st c S (by omega)
 replace S := S.put 0 rfl 6 (.int .i64 x6)
 replace c := st c S (by omega)
 replace S := S.put 0 rfl 7 (.int .i64 x7)
 replace c := st c S (by omega)
 replace S := S.put 0 rfl 8 (.int .i64 x8)
 replace c := st c S (by omega)
 replace S := S.put 1 rfl 0 (.int .i64 x0)
 replace c := st c S (by omega)
 replace S := S.put 1 rfl 1 (.int .i64 x1)
 replace c := st c S (by omega)
 replace S := S.put 1 rfl 2 (.int .i64 x2)
 replace c := st c S (by omega)
 replace S := S.put 1 rfl 3 (.int .i64 x3)
 replace c := st c S (by omega)
 replace S := S.put 1 rfl 4 (.int .i64 x4)
 replace c := st c S (by omega)
 replace S := S.put 1 rfl 5 (.int .i64 x5)
 replace c := st c S (by omega)
 replace S := S.put 1 rfl 6 (.int .i64 x6)
 replace c := st c S (by omega)
 replace S := S.put 1 rfl 7 (.int .i64 x7)
 replace c := st c S (by omega)
 replace S := S.put 1 rfl 8 (.int .i64 x8)
 replace c := st c S (by omega)
 have C := jd c
 have HF := jd S
 have r0 := jd ((S.at_ 1 rfl).cell 0)
 have r1 := jd ((S.at_ 1 rfl).cell 1)
 have r2 := jd ((S.at_ 1 rfl).cell 2)
 have r3 := jd ((S.at_ 1 rfl).cell 3)
 have r4 := jd ((S.at_ 1 rfl).cell 4)
 have r5 := jd ((S.at_ 1 rfl).cell 5)
 have r6 := jd ((S.at_ 1 rfl).cell 6)
 have r7 := jd ((S.at_ 1 rfl).cell 7)
 have r8 := jd ((S.at_ 1 rfl).cell 8)
 clear S c
 go_wp2
 exact bodyPost_ret (v := .agg #[.int .i64 x0, .int .i64 x1, .int .i64 x2, .int .i64 x3, .int .i64 x4, .int .i64 x5, .int .i64 x6, .int .i64 x7, .int .i64 x8]) (by simp [results, Try.results18, go_sem, r0.out, r1.out, r2.out, r3.out, r4.out, r5.out, r6.out, r7.out, r8.out]) rfl ⟨rfl, C.out⟩
def inB (x lo hi : Int) : Bool := decide (lo ≤ x) && decide (x ≤ hi)
theorem inB_iff (x lo hi : Int) : inB x lo hi = true ↔ lo ≤ x ∧ x ≤ hi := by simp [inB]
def opB (o : OpM) : Bool :=
 if o.kind = 1 then inB o.a 0 9 && (inB o.b 0 999 && (decide (o.c = 0) && decide (o.d = 0)))
 else if o.kind = 2 then inB o.a 0 9 && (decide (o.b = 0) && (decide (o.c = 0) && decide (o.d = 0)))
 else if o.kind = 3 then inB o.a 1 20 && (inB o.b 0 1000000 && (inB o.c 0 9 && inB o.d 0 999))
 else if o.kind = 4 then inB o.a 1 20 && (inB o.b 0 1000 && (decide (o.c = 0) && decide (o.d = 0)))
 else if o.kind = 5 then inB o.a 1 1000 && (decide (o.b = 0) && (decide (o.c = 0) && decide (o.d = 0)))
 else false
def EntM.op (e : EntM) : OpM := ⟨e.kd, e.oa, e.ob, e.oc, e.od⟩
def askB (x : Int) : Bool := inB x 2 5
def entB (e : EntM) : Bool := inB e.idx 1 2000 && (inB e.tm 0 1000000 && (askB e.cl && (inB e.sq 1 2000 && opB e.op)))
def opNs (o : OpM) : List Int := [o.kind, o.a, o.b, o.c, o.d]
def opRowM (o : OpM) : List Int := if opB o = true then opNs o else []
def entRowM (e : EntM) : List Int := if entB e = true then entNs e else []
theorem entB_op {e : EntM} (h : entB e = true) : opB e.op = true := by
 unfold entB at h
 simp only [Bool.and_eq_true] at h
 exact h.2.2.2.2
theorem entB_iff (e : EntM) : entB e = true ↔ (1 ≤ e.idx ∧ e.idx ≤ 2000) ∧ (0 ≤ e.tm ∧ e.tm ≤ 1000000) ∧ (2 ≤ e.cl ∧ e.cl ≤ 5) ∧ (1 ≤ e.sq ∧ e.sq ≤ 2000) ∧ opB e.op = true := by
 unfold entB askB
 simp only [Bool.and_eq_true, inB_iff]
def mark0 : MarkM := ⟨0, 0, 0⟩
def markB (x : MarkM) : Bool := askB x.mc && (inB x.ms 1 2000 && inB x.mi 1 2000)
theorem mgetD {l : List MarkM} {j : Nat} (hj : j < l.length) : l.getD j mark0 = l[j] := by simp [List.getD, List.getElem?_eq_getElem hj]
theorem markB_iff (x : MarkM) : markB x = true ↔ (2 ≤ x.mc ∧ x.mc ≤ 5) ∧ (1 ≤ x.ms ∧ x.ms ≤ 2000) ∧ (1 ≤ x.mi ∧ x.mi ≤ 2000) := by
 unfold markB askB
 simp only [Bool.and_eq_true, inB_iff]
def freeTo (l : List MarkM) (j k : Nat) : Bool := (List.range k).all fun q => decide ((l.getD q mark0).mi ≠ (l.getD j mark0).mi)
def riseAt (l : List MarkM) (j : Nat) : Bool := decide (j = 0) || decide ((l.getD (j - 1) mark0).mc < (l.getD j mark0).mc)
def seenAt (l : List MarkM) (j : Nat) : Bool := (markB (l.getD j mark0) && riseAt l j) && freeTo l j j
def seenB (l : List MarkM) : Bool := decide (l.length ≤ 4) && (List.range l.length).all (seenAt l)
theorem seenB_iff (l : List MarkM) : seenB l = true ↔ l.length ≤ 4 ∧ ∀ j, j < l.length → seenAt l j = true := by
 unfold seenB
 simp only [Bool.and_eq_true, decide_eq_true_eq, List.all_eq_true, List.mem_range]
theorem seenB_long {l : List MarkM} (h : 4 < l.length) : seenB l = false := by
 unfold seenB
 rw [decide_eq_false (by omega), Bool.false_and]
theorem seenB_step {l : List MarkM} {j : Nat} (hj : j < l.length) (h : seenAt l j = false) : seenB l = false := by
 rw [Bool.eq_false_iff]
 intro h2
 have := ((seenB_iff l).1 h2).2 j hj
 rw [h] at this
 cases this
theorem freeTo_iff (l : List MarkM) (j k : Nat) : freeTo l j k = true ↔ ∀ q, q < k → (l.getD q mark0).mi ≠ (l.getD j mark0).mi := by
 unfold freeTo
 simp only [List.all_eq_true, List.mem_range, decide_eq_true_eq]
theorem freeTo_no {l : List MarkM} {j k q : Nat} (hq : q < k) (h : (l.getD q mark0).mi = (l.getD j mark0).mi) : freeTo l j k = false := by
 rw [Bool.eq_false_iff]
 intro h2
 exact (freeTo_iff l j k).1 h2 q hq h
theorem seen_mark {l : List MarkM} (h : seenB l = true) {j : Nat} (hj : j < l.length) : markB l[j] = true := by
 have h1 := ((seenB_iff l).1 h).2 j hj
 unfold seenAt at h1
 rw [mgetD hj, Bool.and_eq_true, Bool.and_eq_true] at h1
 exact h1.1.1
def findM (l : List MarkM) (c : Int) : MarkM := (l.find? fun x => x.mc == c).getD mark0
def markOf (l : List MarkM) (c : Int) : MarkM := if seenB l = true then findM l c else mark0
def noneTo (l : List MarkM) (c : Int) (j : Nat) : Prop := ∀ q, q < j → (l.getD q mark0).mc ≠ c
theorem findM_at {l : List MarkM} {c : Int} : ∀ {j : Nat} (hj : j < l.length), noneTo l c j → l[j].mc = c → findM l c = l[j] := by
 induction l with
 | nil => intro j hj; exact absurd hj (by simp)
 | cons x t ih =>
  intro j hj hn he
  unfold findM
  rw [List.find?_cons]
  cases j with
  | zero =>
   have e : (x.mc == c) = true := by simpa using he
   rw [e]
   rfl
  | succ k =>
   have h0 := hn 0 (by omega)
   have e : (x.mc == c) = false := by simpa using h0
   rw [e]
   have hk : k < t.length := by simpa using hj
   have := ih hk (fun q hq => by have := hn (q + 1) (by omega); simpa using this) (by simpa using he)
   unfold findM at this
   rw [this]
   simp
theorem findM_none {l : List MarkM} {c : Int} (h : noneTo l c l.length) : findM l c = mark0 := by
 unfold findM
 rw [List.find?_eq_none.2 fun x hx => ?_]
 · rfl
 · obtain ⟨j, hj, rfl⟩ := List.getElem_of_mem hx
   have := h j hj
   rw [mgetD hj] at this
   simpa using this
def maxTo (l : List MarkM) (j : Nat) : Int := (l.take j).foldl (fun a x => max a x.mi) 0
def lastS (l : List MarkM) : Int := if seenB l = true then maxTo l l.length else 0
theorem maxTo_step {l : List MarkM} {j : Nat} (hj : j < l.length) : maxTo l (j + 1) = max (maxTo l j) l[j].mi := by
 unfold maxTo
 rw [List.take_succ_eq_append_getElem hj, List.foldl_append]
 rfl
theorem maxTo_zero (l : List MarkM) : maxTo l 0 = 0 := by
 unfold maxTo
 rw [List.take_zero]
 rfl
theorem seenAt_all {l : List MarkM} (h : seenB l = true) {j : Nat} (hj : j < l.length) : markB l[j] = true ∧ (∀ k, k + 1 = j → (l.getD k mark0).mc < l[j].mc) ∧ ∀ q, q < j → (l.getD q mark0).mi ≠ l[j].mi := by
 have h1 := ((seenB_iff l).1 h).2 j hj
 unfold seenAt riseAt at h1
 rw [mgetD hj, Bool.and_eq_true, Bool.and_eq_true, freeTo_iff, mgetD hj] at h1
 refine ⟨h1.1.1, fun k hk => ?_, h1.2⟩
 have h2 := h1.1.2
 subst hk
 rw [decide_eq_false (show ¬ k + 1 = 0 by omega), Bool.false_or, decide_eq_true_eq, Nat.add_sub_cancel] at h2
 exact h2
theorem seen_rise {l : List MarkM} (h : seenB l = true) : ∀ j (hj : j < l.length) q (hq : q < j), (l[q]'(by omega)).mc < l[j].mc := by
 intro j
 induction j with
 | zero => intro _ q hq; exact absurd hq (by omega)
 | succ k ih =>
  intro hj q hq
  have h1 := (seenAt_all h hj).2.1 k rfl
  rw [mgetD (show k < l.length by omega)] at h1
  by_cases e : q = k
  · subst e; exact h1
  · have h2 := ih (by omega) q (by omega)
    omega
theorem seen_pairs {l : List MarkM} (h : seenB l = true) : (∀ x ∈ l, markB x = true) ∧ l.Pairwise (fun a b => a.mc < b.mc) ∧ l.Pairwise (fun a b => a.mi ≠ b.mi) := by
 refine ⟨fun x hx => ?_, ?_, ?_⟩
 · obtain ⟨j, hj, rfl⟩ := List.getElem_of_mem hx
   exact seen_mark h hj
 · rw [List.pairwise_iff_getElem]
   intro i j hi hj hij
   exact seen_rise h j hj i hij
 · rw [List.pairwise_iff_getElem]
   intro i j hi hj hij
   have := (seenAt_all h hj).2.2 i hij
   rwa [mgetD hi] at this
theorem seen_of {l : List MarkM} (h1 : ∀ x ∈ l, markB x = true) (h2 : l.Pairwise (fun a b => a.mc < b.mc)) (h3 : l.Pairwise (fun a b => a.mi ≠ b.mi)) : seenB l = true := by
 rw [List.pairwise_iff_getElem] at h2 h3
 have hlow : ∀ j (hj : j < l.length), (j : Int) + 2 ≤ l[j].mc := by
  intro j
  induction j with
  | zero =>
   intro hj
   have := ((markB_iff _).1 (h1 _ (List.getElem_mem hj))).1
   simp
   omega
  | succ k ih =>
   intro hj
   have h4 := ih (by omega)
   have h5 := h2 k (k + 1) (by omega) hj (by omega)
   omega
 rw [seenB_iff]
 constructor
 · rcases Nat.lt_or_ge 4 l.length with h4 | h4
   · have h5 := hlow 4 h4
     have h6 := ((markB_iff _).1 (h1 _ (List.getElem_mem h4))).1
     omega
   · exact h4
 · intro j hj
   unfold seenAt riseAt
   rw [mgetD hj, h1 _ (List.getElem_mem hj), Bool.true_and, Bool.and_eq_true, freeTo_iff]
   refine ⟨?_, fun q hq => ?_⟩
   · rcases Nat.eq_zero_or_pos j with h0 | h0
     · rw [decide_eq_true h0, Bool.true_or]
     · rw [mgetD (show j - 1 < l.length by omega), decide_eq_true (h2 (j - 1) j (by omega) hj (by omega)), Bool.or_true]
   · rw [mgetD (show q < l.length by omega), mgetD hj]
     exact h3 q j (by omega) hj hq
theorem maxTo_le (l : List MarkM) : ∀ j, j ≤ l.length → ∀ q (_hq : q < j) (hl : q < l.length), l[q].mi ≤ maxTo l j := by
 intro j
 induction j with
 | zero => intro _ q hq; exact absurd hq (by omega)
 | succ k ih =>
  intro hk q hq hl
  rw [maxTo_step (show k < l.length by omega)]
  by_cases e : q = k
  · subst e; omega
  · have := ih (by omega) q (by omega) hl
    omega
end Go.Proofs.Ytecihkkagpbkdaa

/- Parts of my texts: Book Let. -/
import Derived.Test.YthjjdelpdiipdaaGreatDoorMX6
namespace Go.Proofs.YthjjdelpdiipdaaGreatDoor
set_option maxRecDepth 100000
set_option linter.unusedVariables false
open Go.RowKit
structure BookM where
 base : Int
 tm : Int
 ents : List EntM
def BookM.cells (t : BookM) : List Dat := [.int t.base] ++ ([.int t.tm] ++ ([entD t.ents]))
def BookM.sz (t : BookM) : Nat := entSz t.ents
def BookM.n (t : BookM) : Nat := entN t.ents
def MarkedBook (t : BookM) (k : Int) : Prop := MarkedEntryS t.ents (k)
def MadeBook (w : World) (t : BookM) (e : Ending) (w' : World) : Prop :=
 ∃ (x0 : Int) (x1 : Int) (A2 : Option Addr) (n2 c2 : Nat), e = .returned (.agg #[.int .i64 x0, .int .i64 x1, .slice A2 n2 c2]) ∧ Has w' w.heap.size t.cells [.int .i64 x0, .int .i64 x1, .slice A2 n2 c2] ∧ Below w.heap.size w w'
theorem Rd.bookT {w : World} {B : Nat} {t : BookM} {v0 v1 v2 : Value} (h : Rd w B t.cells [v0, v1, v2]) : ∃ (A2 : Option Addr) (n2 c2 : Nat), v0 = .int .i64 t.base ∧ v1 = .int .i64 t.tm ∧ v2 = .slice A2 n2 c2 ∧ Rd w B ([entD t.ents]) [.slice A2 n2 c2] := by
 have g0 : Rd w B ([.int t.base] ++ ([.int t.tm] ++ ([entD t.ents]))) [v0, v1, v2] := h
 obtain ⟨p0, g1⟩ := Rd.cut (ds := [.int t.base]) (vs := [v0]) (vs' := [v1, v2]) g0 rfl
 obtain ⟨e0, _⟩ := Rd.int_cons p0
 obtain ⟨p1, g2⟩ := Rd.cut (ds := [.int t.tm]) (vs := [v1]) (vs' := [v2]) g1 rfl
 obtain ⟨e1, _⟩ := Rd.int_cons p1
 have p2 := g2
 obtain ⟨A2, n2, c2, e2, _⟩ := Rd.ents p2
 subst e0
 subst e1
 subst e2
 exact ⟨A2, n2, c2, rfl, rfl, rfl, p2⟩
theorem Ow.bookT {w : World} {t : BookM} {v0 v1 v2 : Value} {fp : List Nat} (h : Ow w t.cells [v0, v1, v2] fp) : ∃ f2, fp = f2 ++ ([]) ∧ Ow w ([entD t.ents]) [v2] f2 := by
 have g0 : Ow w ([.int t.base] ++ ([.int t.tm] ++ ([entD t.ents] ++ ([])))) [v0, v1, v2] fp := h
 obtain ⟨_, g1⟩ := Ow.int_cons g0
 obtain ⟨_, g2⟩ := Ow.int_cons g1
 obtain ⟨f2, r2, rfl, o2, g3⟩ := Ow.cut (ds := [entD t.ents]) (vs := [v2]) (vs' := []) g2 rfl
 have gz := Ow.nil_foot g3
 subst gz
 exact ⟨f2, rfl, o2⟩
theorem book_n9 (t : BookM) : t.n ≤ 9 * t.sz := by
 have h0 : entN t.ents ≤ 9 * (entSz t.ents) := (Nat.le_trans (entN_le t.ents) (Nat.mul_le_mul_right _ (by decide)))
 show entN t.ents ≤ 9 * (entSz t.ents)
 omega
theorem book_n_le (t : BookM) (h : t.sz ≤ 1048577) : t.n ≤ 9437193 := by
 have := book_n9 t
 omega
set_option maxHeartbeats 6400000 in
theorem toBook_made (v0 v1 v2 : Value) (t : BookM) (w : World) (h : Rd w w.heap.size t.cells [v0, v1, v2]) (hs : t.sz ≤ 1048576) : Calls Tryz.prog 40 #[.agg #[v0, v1, v2]] w (MadeBook w t) := by
 obtain ⟨Aa2, na2, ca2, rfl, rfl, rfl, hr2⟩ := h.bookT
 have S := Sep.nil w w.heap.size
 have c := Below.refl w.heap.size w
 have hz2 : entSz t.ents ≤ 1048576 := by unfold BookM.sz at hs; omega
 replace S := S.boxAt c.size (w.heap.size) rfl #[.int .i64 t.base, .int .i64 t.tm, .slice Aa2 na2 ca2] 33
 replace c := al c S
 replace S := S.boxAt c.size (w.heap.size + 1) (by simp) #[.int .i64 0, .int .i64 0, .slice none 0 0] 49
 replace c := al c S
 replace S := S.boxAt c.size (w.heap.size + 1 + 1) (by simp) #[.int .i64 t.base, .int .i64 t.tm, .slice none 0 0] 49
 replace c := al c S
 go_enter Tryz.func40, Tryz.ntmps40
 go_wp2_with fail
 generalize ((w.alloc (.cells #[.int .i64 t.base, .int .i64 t.tm, .slice Aa2 na2 ca2] 33)).alloc (.cells #[.int .i64 0, .int .i64 0, .slice none 0 0] 49)).alloc (.cells #[.int .i64 t.base, .int .i64 t.tm, .slice none 0 0] 49) = w1 at *
 refine (toEntryS_made _ _ _ t.ents _ ((hr2.keep c).up c.size) hz2).mono ?_
 rintro e w2 ⟨Au2, nu2, cu2, rfl, o, b⟩
 obtain ⟨fp_u2, S'⟩ := S.has b o c.size
 replace c := c.trans (b.mono c.size)
 clear S; have S := S'; clear S' o b
 have f0 := lk S 1 2 rfl rfl
 have f1 := (S.at_ 1 rfl).free 2
 have f2 := lk S 1 0 rfl rfl
 have f3 := lk S 1 1 rfl rfl
 have f4 := lk S 2 0 rfl rfl
 have f5 := (S.at_ 2 rfl).free 0
 have f6 := lk S 2 1 rfl rfl
 have f7 := (S.at_ 2 rfl).free 1
 have f8 := lk S 2 2 rfl rfl
 have f9 := (S.at_ 2 rfl).free 2
 replace S := S.put 1 rfl 2 (.slice Au2 nu2 cu2)
 replace c := st c S (by omega)
 replace S := S.put 2 rfl 0 (.int .i64 t.base)
 replace c := st c S (by omega)
 replace S := S.put 2 rfl 1 (.int .i64 t.tm)
 replace c := st c S (by omega)
 replace S := S.put 2 rfl 2 (.slice Au2 nu2 cu2)
 replace c := st c S (by omega)
 have hzz := S.nodup
 have S2 := (S.sub ((.cons_cons _ (List.nil_sublist _)))).of_perm (is' := [.own ([entD t.ents]) [.slice Au2 nu2 cu2] fp_u2]) (by exact List.Perm.refl _)
 have H0 : Has _ w.heap.size t.cells [.int .i64 t.base, .int .i64 t.tm, .slice Au2 nu2 cu2] := ⟨fp_u2 ++ ([]), (.int (.int (Ow.append (S.own_ 0 rfl) .nil))), S2.nodup, S2.ge⟩
 have H := jd H0
 have C := jd c
 clear S S2 H0 hzz c h hr2
 go_wp2
 exact bodyPost_ret (v := .agg #[.int .i64 t.base, .int .i64 t.tm, .slice Au2 nu2 cu2]) (by simp [results, Tryz.results40, go_sem, f4, f6, f8]) rfl ⟨_, _, _, _, _, rfl, H.out, C.out⟩
set_option maxHeartbeats 6400000 in
theorem eqBook_yes (v0 v1 v2 u0 u1 u2 : Value) (B B' : Nat) (t : BookM) (w : World) (h : Rd w B t.cells [v0, v1, v2]) (h' : Rd w B' t.cells [u0, u1, u2]) (hB : B ≤ w.heap.size) (hB' : B' ≤ w.heap.size) (hs : t.sz ≤ 1048577) :
    Calls Tryz.prog 46 #[.agg #[v0, v1, v2], .agg #[u0, u1, u2]] w fun e w' => e = .returned (.bool true) ∧ Below w.heap.size w w' := by
 obtain ⟨Aa2, na2, ca2, rfl, rfl, rfl, hr2⟩ := h.bookT
 obtain ⟨Ab2, nb2, cb2, rfl, rfl, rfl, kr2⟩ := h'.bookT
 have S := Sep.nil w w.heap.size
 have c := Below.refl w.heap.size w
 have hz2 : entSz t.ents ≤ 1048577 := by unfold BookM.sz at hs; omega
 replace S := S.boxAt c.size (w.heap.size) rfl #[.int .i64 t.base, .int .i64 t.tm, .slice Aa2 na2 ca2] 49
 replace c := al c S
 replace S := S.boxAt c.size (w.heap.size + 1) (by simp) #[.int .i64 t.base, .int .i64 t.tm, .slice Ab2 nb2 cb2] 49
 replace c := al c S
 go_enter Tryz.func46, Tryz.ntmps46
 go_wp2_with fail
 generalize (w.alloc (.cells #[.int .i64 t.base, .int .i64 t.tm, .slice Aa2 na2 ca2] 49)).alloc (.cells #[.int .i64 t.base, .int .i64 t.tm, .slice Ab2 nb2 cb2] 49) = w1 at *
 refine (eqEntryS_yes _ _ _ _ _ _ _ _ t.ents _ (hr2.keep (c.mono hB)) (kr2.keep (c.mono hB')) (Nat.le_trans hB c.size) (Nat.le_trans hB' c.size) hz2).mono ?_
 rintro e w2 ⟨rfl, b⟩
 replace c := c.trans (b.mono c.size)
 replace S := S.keep b
 clear b
 have C := jd c
 clear S c h h' hr2 kr2
 go_wp2
 go_ret
 exact ⟨rfl, C.out⟩
set_option maxHeartbeats 6400000 in
theorem markBook_any (v0 v1 v2 : Value) (t : BookM) (fp : List Nat) (w : World) (o : Ow w t.cells [v0, v1, v2] fp) (hnd : fp.Nodup) (hs : t.sz ≤ 1048577) (k : Int) (k0 : 0 ≤ k) (k1 : k ≤ 90000000000) :
    Calls Tryz.prog 54 #[.agg #[v0, v1, v2], .int .i64 k] w fun e w' => ∃ t', e = .returned (.int .i64 (k + (t.n : Int))) ∧ Ow w' t'.cells [v0, v1, v2] fp ∧ Touch fp w w' ∧ MarkedBook t' k ∧ t'.n = t.n ∧ t'.sz = t.sz := by
 obtain ⟨Aa2, na2, ca2, rfl, rfl, rfl, _hr2⟩ := o.rd.bookT
 have hz2 : entSz t.ents ≤ 1048577 := by unfold BookM.sz at hs; omega
 have h9 := book_n_le t hs
 have hna : t.n = entN t.ents := rfl
 obtain ⟨f2, rfl, o2⟩ := Ow.bookT o
 have n0 := hnd
 have n1 := (List.nodup_append.1 n0).2.1
 have S := Sep.nil w 0
 replace S := S.addOw o2 n0
 clear o o2 n0 n1
 have T := Touch.of_below ((Below.refl _ w).alloc (Nat.le_refl _) (.cells #[.int .i64 t.base, .int .i64 t.tm, .slice Aa2 na2 ca2] 49)) (f2 ++ ([]))
 replace S := S.boxAt (Nat.zero_le _) w.heap.size rfl #[.int .i64 t.base, .int .i64 t.tm, .slice Aa2 na2 ca2] 49
 go_enter Tryz.func54, Tryz.ntmps54
 go_wp2_with fail
 generalize w.alloc (.cells #[.int .i64 t.base, .int .i64 t.tm, .slice Aa2 na2 ca2] 49) = w1 at *
 refine (markEntryS_any _ _ _ t.ents f2 _ (S.own_ 1 rfl) (S.nodup_own 1 rfl) hz2 _ (by omega) (by omega)).mono ?_
 rintro e w2 ⟨d2, rfl, o, t', m2, en2, es2⟩
 replace T := T.trans (t'.mono (fun p hp => by simp [hp]))
 replace S := S.mark 1 rfl t' o
 clear o t'
 have M2 := jd m2
 clear m2
 have R0 : Ow _ (BookM.cells (⟨t.base, t.tm, d2⟩)) [.int .i64 t.base, .int .i64 t.tm, .slice Aa2 na2 ca2] (f2 ++ ([])) := (.int (.int (Ow.append (S.own_ 1 rfl) .nil)))
 have R := jd R0
 have TT := jd T
 have E := jd (And.intro hna (And.intro (en2) (es2)))
 clear S T R0 hna en2 es2
 go_wp2
 go_ret
 obtain ⟨hna, en, es⟩ := E.out
 obtain en2 := en
 obtain es2 := es
 refine ⟨⟨t.base, t.tm, d2⟩, ?_, R.out, TT.out, ?_, ?_, ?_⟩
 · refine congrArg Ending.returned (congrArg (Value.int .i64) ?_)
   omega
 · show MarkedEntryS d2 (k)
   exact M2.out
 · show entN d2 = entN t.ents
   omega
 · show entSz d2 = entSz t.ents
   omega
set_option maxHeartbeats 6400000 in
theorem szBook_any (v0 v1 v2 : Value) (t : BookM) (B : Nat) (L : Int) (w : World) (h : Rd w B t.cells [v0, v1, v2]) (hB : B ≤ w.heap.size) (l0 : 0 ≤ L) (l1 : L ≤ 1048576) :
    Calls Tryz.prog 25 #[.agg #[v0, v1, v2], .int .i64 L] w fun e w' => e = .returned (.int .i64 (left L t.sz)) ∧ Below w.heap.size w w' := by
 obtain ⟨Aa2, na2, ca2, rfl, rfl, rfl, hr2⟩ := h.bookT
 have HD := jd (show t.sz = entSz t.ents from rfl)
 have S := Sep.nil w w.heap.size
 have c := Below.refl w.heap.size w
 replace S := S.boxAt c.size (w.heap.size) rfl #[.int .i64 t.base, .int .i64 t.tm, .slice Aa2 na2 ca2] 33
 replace c := al c S
 go_enter Tryz.func25, Tryz.ntmps25
 go_wp2_with fail
 generalize w.alloc (.cells #[.int .i64 t.base, .int .i64 t.tm, .slice Aa2 na2 ca2] 33) = w1 at *
 refine (szEntryS_any _ _ _ t.ents _ _ _ (hr2.keep (c.mono hB)) (Nat.le_trans hB c.size) (by omega) (by omega)).mono ?_
 rintro e w2 ⟨rfl, b⟩
 replace c := c.trans (b.mono c.size)
 replace S := S.keep b
 clear b
 obtain ⟨s2, hsv2⟩ : ∃ q, q = entSz t.ents := ⟨_, rfl⟩
 rw [← hsv2]
 have HV2 := jd hsv2
 clear hsv2
 by_cases hc2 : (s2 : Int) ≤ L
 case neg =>
  rw [left, if_neg (by omega)]
  have C := jd c
  clear S c h hr2
  go_wp2
  go_ret
  refine ⟨ret_i64 ?_, C.out⟩
  rw [left, HD.out, ← HV2.out, if_neg (by omega)]
 rw [left, if_pos (by omega)]
 have q2 : ¬ (L - (s2 : Int) < 0) := by omega
 have C := jd c
 clear S c h hr2
 go_wp2
 go_ret
 refine ⟨ret_i64 ?_, C.out⟩
 rw [left, HD.out, ← HV2.out, if_pos (by omega)]
structure AckM where
 cl : Int
 sq : Int
 ix : Int
 last : Int
def ackC (x : AckM) : List Dat := [.int x.cl, .int x.sq, .int x.ix, .int x.last]
set_option maxHeartbeats 1600000 in
theorem toAck_any (x0 x1 x2 x3 : Int) (w : World) :
    Calls Tryz.prog 78 #[.agg #[.int .i64 x0, .int .i64 x1, .int .i64 x2, .int .i64 x3]] w fun e w' => e = .returned (.agg #[.int .i64 x0, .int .i64 x1, .int .i64 x2, .int .i64 x3]) ∧ Below w.heap.size w w' := by
 have C := jd ((((Below.refl w.heap.size w).alloc (Nat.le_refl _) (.cells #[.int .i64 x0, .int .i64 x1, .int .i64 x2, .int .i64 x3] 124)).alloc (by simp) (.cells #[.int .i64 x0, .int .i64 x1, .int .i64 x2, .int .i64 x3] 116)).alloc (by simp; omega) (.cells #[.int .i64 x0, .int .i64 x1, .int .i64 x2, .int .i64 x3] 116))
 go_enter Tryz.func78, Tryz.ntmps78
 go_wp2
 exact bodyPost_ret (v := .agg #[.int .i64 x0, .int .i64 x1, .int .i64 x2, .int .i64 x3]) (by simp [results, Tryz.results78, go_sem]) rfl ⟨rfl, C.out⟩
set_option maxHeartbeats 1600000 in
theorem eqAck_one (x0 x1 x2 x3 : Int) (w : World) :
    Calls Tryz.prog 90 #[.agg #[.int .i64 x0, .int .i64 x1, .int .i64 x2, .int .i64 x3], .agg #[.int .i64 x0, .int .i64 x1, .int .i64 x2, .int .i64 x3]] w fun e w' => e = .returned (.bool true) ∧ Below w.heap.size w w' := by
 have b0 : Below w.heap.size w ((w.alloc (.cells #[.int .i64 x0, .int .i64 x1, .int .i64 x2, .int .i64 x3] 116)).alloc (.cells #[.int .i64 x0, .int .i64 x1, .int .i64 x2, .int .i64 x3] 116)) :=
  ((Below.refl _ w).alloc (Nat.le_refl _) _).alloc (by simp) _
 have B0 := jd b0
 clear b0
 go_enter Tryz.func90, Tryz.ntmps90
 go_wp2
 go_ret
 exact ⟨rfl, B0.out⟩
end Go.Proofs.YthjjdelpdiipdaaGreatDoor

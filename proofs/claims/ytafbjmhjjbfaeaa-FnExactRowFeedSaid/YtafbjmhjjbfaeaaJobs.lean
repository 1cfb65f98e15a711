/-
  Lists of jobs as plain data, and the laws' helpers for them (by program, wip/gen/genlet0.py).
-/
import Derived.Test.YtafbjmhjjbfaeaaDue
import Derived.RegionTactic
import Derived.BigQuiet
namespace Go.Proofs.Ytafbjmhjjbfaeaa
set_option maxRecDepth 100000
open Go.RowKit

structure JobsM where
  ix : Int
  tm : Int
  ho : Int
  ep : Int
  un : Int
  open_ : List TimerM
def JobsM.cells (t : JobsM) : List Dat := [.int t.ix] ++ ([.int t.tm] ++ ([.int t.ho] ++ ([.int t.ep] ++ ([.int t.un] ++ ([djD t.open_])))))
def JobsM.sz (t : JobsM) : Nat := djSz t.open_
def JobsM.n (t : JobsM) : Nat := djN t.open_
def MarkedJobs (t : JobsM) (k : Int) : Prop := MarkedDueS t.open_ (k)
def MadeJobs (w : World) (t : JobsM) (e : Ending) (w' : World) : Prop :=
  ∃ (x0 : Int) (x1 : Int) (x2 : Int) (x3 : Int) (x4 : Int) (A5 : Option Addr) (n5 c5 : Nat), e = .returned (.agg #[.int .i64 x0, .int .i64 x1, .int .i64 x2, .int .i64 x3, .int .i64 x4, .slice A5 n5 c5]) ∧ Has w' w.heap.size t.cells [.int .i64 x0, .int .i64 x1, .int .i64 x2, .int .i64 x3, .int .i64 x4, .slice A5 n5 c5] ∧ Below w.heap.size w w'
theorem Rd.jobsT {w : World} {B : Nat} {t : JobsM} {v0 v1 v2 v3 v4 v5 : Value} (h : Rd w B t.cells [v0, v1, v2, v3, v4, v5]) : ∃ (A5 : Option Addr) (n5 c5 : Nat), v0 = .int .i64 t.ix ∧ v1 = .int .i64 t.tm ∧ v2 = .int .i64 t.ho ∧ v3 = .int .i64 t.ep ∧ v4 = .int .i64 t.un ∧ v5 = .slice A5 n5 c5 ∧ Rd w B ([djD t.open_]) [.slice A5 n5 c5] := by
  have g0 : Rd w B ([.int t.ix] ++ ([.int t.tm] ++ ([.int t.ho] ++ ([.int t.ep] ++ ([.int t.un] ++ ([djD t.open_])))))) [v0, v1, v2, v3, v4, v5] := h
  obtain ⟨p0, g1⟩ := Rd.cut (ds := [.int t.ix]) (vs := [v0]) (vs' := [v1, v2, v3, v4, v5]) g0 rfl
  obtain ⟨e0, _⟩ := Rd.int_cons p0
  obtain ⟨p1, g2⟩ := Rd.cut (ds := [.int t.tm]) (vs := [v1]) (vs' := [v2, v3, v4, v5]) g1 rfl
  obtain ⟨e1, _⟩ := Rd.int_cons p1
  obtain ⟨p2, g3⟩ := Rd.cut (ds := [.int t.ho]) (vs := [v2]) (vs' := [v3, v4, v5]) g2 rfl
  obtain ⟨e2, _⟩ := Rd.int_cons p2
  obtain ⟨p3, g4⟩ := Rd.cut (ds := [.int t.ep]) (vs := [v3]) (vs' := [v4, v5]) g3 rfl
  obtain ⟨e3, _⟩ := Rd.int_cons p3
  obtain ⟨p4, g5⟩ := Rd.cut (ds := [.int t.un]) (vs := [v4]) (vs' := [v5]) g4 rfl
  obtain ⟨e4, _⟩ := Rd.int_cons p4
  have p5 := g5
  obtain ⟨A5, n5, c5, e5, _⟩ := Rd.djs p5
  subst e0
  subst e1
  subst e2
  subst e3
  subst e4
  subst e5
  exact ⟨A5, n5, c5, rfl, rfl, rfl, rfl, rfl, rfl, p5⟩
theorem Ow.jobsT {w : World} {t : JobsM} {v0 v1 v2 v3 v4 v5 : Value} {fp : List Nat} (h : Ow w t.cells [v0, v1, v2, v3, v4, v5] fp) : ∃ f5, fp = f5 ++ ([]) ∧ Ow w ([djD t.open_]) [v5] f5 := by
  have g0 : Ow w ([.int t.ix] ++ ([.int t.tm] ++ ([.int t.ho] ++ ([.int t.ep] ++ ([.int t.un] ++ ([djD t.open_] ++ ([]))))))) [v0, v1, v2, v3, v4, v5] fp := h
  obtain ⟨_, g1⟩ := Ow.int_cons g0
  obtain ⟨_, g2⟩ := Ow.int_cons g1
  obtain ⟨_, g3⟩ := Ow.int_cons g2
  obtain ⟨_, g4⟩ := Ow.int_cons g3
  obtain ⟨_, g5⟩ := Ow.int_cons g4
  obtain ⟨f5, r5, rfl, o5, g6⟩ := Ow.cut (ds := [djD t.open_]) (vs := [v5]) (vs' := []) g5 rfl
  have gz := Ow.nil_foot g6
  subst gz
  exact ⟨f5, rfl, o5⟩
theorem jobs_n9 (t : JobsM) : t.n ≤ 9 * t.sz := by
  have h0 : djN t.open_ ≤ 9 * (djSz t.open_) := (Nat.le_trans (djN_le t.open_) (Nat.mul_le_mul_right _ (by decide)))
  show djN t.open_ ≤ 9 * (djSz t.open_)
  omega
theorem jobs_n_le (t : JobsM) (h : t.sz ≤ 1048577) : t.n ≤ 9437193 := by
  have := jobs_n9 t
  omega

set_option maxHeartbeats 6400000 in
theorem toJobs_made (v0 v1 v2 v3 v4 v5 : Value) (t : JobsM) (w : World) (h : Rd w w.heap.size t.cells [v0, v1, v2, v3, v4, v5]) (hs : t.sz ≤ 1048576) : Calls Try.prog 27 #[.agg #[v0, v1, v2, v3, v4, v5]] w (MadeJobs w t) := by
  obtain ⟨Aa5, na5, ca5, rfl, rfl, rfl, rfl, rfl, rfl, hr5⟩ := h.jobsT
  have S := Sep.nil w w.heap.size
  have c := Below.refl w.heap.size w
  have hz5 : djSz t.open_ ≤ 1048576 := by unfold JobsM.sz at hs; omega
  replace S := S.boxAt c.size (w.heap.size) rfl #[.int .i64 t.ix, .int .i64 t.tm, .int .i64 t.ho, .int .i64 t.ep, .int .i64 t.un, .slice Aa5 na5 ca5] 46
  replace c := c.alloc c.size (.cells #[.int .i64 t.ix, .int .i64 t.tm, .int .i64 t.ho, .int .i64 t.ep, .int .i64 t.un, .slice Aa5 na5 ca5] 46)
  replace S := S.boxAt c.size (w.heap.size + 1) (by simp) #[.int .i64 0, .int .i64 0, .int .i64 0, .int .i64 0, .int .i64 0, .slice none 0 0] 51
  replace c := c.alloc c.size (.cells #[.int .i64 0, .int .i64 0, .int .i64 0, .int .i64 0, .int .i64 0, .slice none 0 0] 51)
  replace S := S.boxAt c.size (w.heap.size + 1 + 1) (by simp) #[.int .i64 t.ix, .int .i64 t.tm, .int .i64 t.ho, .int .i64 t.ep, .int .i64 t.un, .slice none 0 0] 51
  replace c := c.alloc c.size (.cells #[.int .i64 t.ix, .int .i64 t.tm, .int .i64 t.ho, .int .i64 t.ep, .int .i64 t.un, .slice none 0 0] 51)
  go_enter Try.func27, Try.ntmps27
  go_wp2_with fail
  generalize ((w.alloc (.cells #[.int .i64 t.ix, .int .i64 t.tm, .int .i64 t.ho, .int .i64 t.ep, .int .i64 t.un, .slice Aa5 na5 ca5] 46)).alloc (.cells #[.int .i64 0, .int .i64 0, .int .i64 0, .int .i64 0, .int .i64 0, .slice none 0 0] 51)).alloc (.cells #[.int .i64 t.ix, .int .i64 t.tm, .int .i64 t.ho, .int .i64 t.ep, .int .i64 t.un, .slice none 0 0] 51) = w1 at *
  refine (toDueS_made _ _ _ t.open_ _ ((hr5.keep c).up c.size) hz5).mono ?_
  rintro e w2 ⟨Au5, nu5, cu5, rfl, o, b⟩
  obtain ⟨fp_u5, S'⟩ := S.has b o c.size
  replace c := c.trans (b.mono c.size)
  clear S; have S := S'; clear S' o b
  have f0 : w2.cell? ⟨w.heap.size + 1 + 1, 5, none⟩ = some (.slice none 0 0) := (S.at_ 1 rfl).cell 5
  have f1 := (S.at_ 1 rfl).free 5
  have f2 : w2.cell? ⟨w.heap.size + 1 + 1, 0, none⟩ = some (.int .i64 t.ix) := (S.at_ 1 rfl).cell 0
  have f3 : w2.cell? ⟨w.heap.size + 1 + 1, 1, none⟩ = some (.int .i64 t.tm) := (S.at_ 1 rfl).cell 1
  have f4 : w2.cell? ⟨w.heap.size + 1 + 1, 2, none⟩ = some (.int .i64 t.ho) := (S.at_ 1 rfl).cell 2
  have f5 : w2.cell? ⟨w.heap.size + 1 + 1, 3, none⟩ = some (.int .i64 t.ep) := (S.at_ 1 rfl).cell 3
  have f6 : w2.cell? ⟨w.heap.size + 1 + 1, 4, none⟩ = some (.int .i64 t.un) := (S.at_ 1 rfl).cell 4
  have f7 : w2.cell? ⟨w.heap.size + 1, 0, none⟩ = some (.int .i64 0) := (S.at_ 2 rfl).cell 0
  have f8 := (S.at_ 2 rfl).free 0
  have f9 : w2.cell? ⟨w.heap.size + 1, 1, none⟩ = some (.int .i64 0) := (S.at_ 2 rfl).cell 1
  have f10 := (S.at_ 2 rfl).free 1
  have f11 : w2.cell? ⟨w.heap.size + 1, 2, none⟩ = some (.int .i64 0) := (S.at_ 2 rfl).cell 2
  have f12 := (S.at_ 2 rfl).free 2
  have f13 : w2.cell? ⟨w.heap.size + 1, 3, none⟩ = some (.int .i64 0) := (S.at_ 2 rfl).cell 3
  have f14 := (S.at_ 2 rfl).free 3
  have f15 : w2.cell? ⟨w.heap.size + 1, 4, none⟩ = some (.int .i64 0) := (S.at_ 2 rfl).cell 4
  have f16 := (S.at_ 2 rfl).free 4
  have f17 : w2.cell? ⟨w.heap.size + 1, 5, none⟩ = some (.slice none 0 0) := (S.at_ 2 rfl).cell 5
  have f18 := (S.at_ 2 rfl).free 5
  replace S := S.put 1 rfl 5 (.slice Au5 nu5 cu5)
  replace c := c.setCell (p := ⟨w.heap.size + 1 + 1, 5, none⟩) (by show w.heap.size ≤ w.heap.size + 1 + 1; omega) (.slice Au5 nu5 cu5)
  replace S := S.put 2 rfl 0 (.int .i64 t.ix)
  replace c := c.setCell (p := ⟨w.heap.size + 1, 0, none⟩) (by show w.heap.size ≤ w.heap.size + 1; omega) (.int .i64 t.ix)
  replace S := S.put 2 rfl 1 (.int .i64 t.tm)
  replace c := c.setCell (p := ⟨w.heap.size + 1, 1, none⟩) (by show w.heap.size ≤ w.heap.size + 1; omega) (.int .i64 t.tm)
  replace S := S.put 2 rfl 2 (.int .i64 t.ho)
  replace c := c.setCell (p := ⟨w.heap.size + 1, 2, none⟩) (by show w.heap.size ≤ w.heap.size + 1; omega) (.int .i64 t.ho)
  replace S := S.put 2 rfl 3 (.int .i64 t.ep)
  replace c := c.setCell (p := ⟨w.heap.size + 1, 3, none⟩) (by show w.heap.size ≤ w.heap.size + 1; omega) (.int .i64 t.ep)
  replace S := S.put 2 rfl 4 (.int .i64 t.un)
  replace c := c.setCell (p := ⟨w.heap.size + 1, 4, none⟩) (by show w.heap.size ≤ w.heap.size + 1; omega) (.int .i64 t.un)
  replace S := S.put 2 rfl 5 (.slice Au5 nu5 cu5)
  replace c := c.setCell (p := ⟨w.heap.size + 1, 5, none⟩) (by show w.heap.size ≤ w.heap.size + 1; omega) (.slice Au5 nu5 cu5)
  have hzz := S.nodup
  have S2 := (S.sub ((.cons_cons _ (List.nil_sublist _)))).of_perm (is' := [.own ([djD t.open_]) [.slice Au5 nu5 cu5] fp_u5]) (by exact List.Perm.refl _)
  have H0 : Has _ w.heap.size t.cells [.int .i64 t.ix, .int .i64 t.tm, .int .i64 t.ho, .int .i64 t.ep, .int .i64 t.un, .slice Au5 nu5 cu5] := ⟨fp_u5 ++ ([]), (.int (.int (.int (.int (.int (Ow.append (S.own_ 0 rfl) .nil)))))), S2.nodup, S2.ge⟩
  have H := Lib.hid H0
  have C := Lib.hid c
  clear S S2 H0 hzz c h hr5
  go_wp2
  exact bodyPost_ret (v := .agg #[.int .i64 t.ix, .int .i64 t.tm, .int .i64 t.ho, .int .i64 t.ep, .int .i64 t.un, .slice Au5 nu5 cu5]) (by simp [results, Try.results27, go_sem, f7, f9, f11, f13, f15, f17]) rfl ⟨_, _, _, _, _, _, _, _, rfl, H.out, C.out⟩

set_option maxHeartbeats 6400000 in
theorem eqJobs_yes (v0 v1 v2 v3 v4 v5 u0 u1 u2 u3 u4 u5 : Value) (B B' : Nat) (t : JobsM) (w : World) (h : Rd w B t.cells [v0, v1, v2, v3, v4, v5]) (h' : Rd w B' t.cells [u0, u1, u2, u3, u4, u5]) (hB : B ≤ w.heap.size) (hB' : B' ≤ w.heap.size) (hs : t.sz ≤ 1048577) :
    Calls Try.prog 29 #[.agg #[v0, v1, v2, v3, v4, v5], .agg #[u0, u1, u2, u3, u4, u5]] w fun e w' => e = .returned (.bool true) ∧ Below w.heap.size w w' := by
  obtain ⟨Aa5, na5, ca5, rfl, rfl, rfl, rfl, rfl, rfl, hr5⟩ := h.jobsT
  obtain ⟨Ab5, nb5, cb5, rfl, rfl, rfl, rfl, rfl, rfl, kr5⟩ := h'.jobsT
  have S := Sep.nil w w.heap.size
  have c := Below.refl w.heap.size w
  have hz5 : djSz t.open_ ≤ 1048577 := by unfold JobsM.sz at hs; omega
  replace S := S.boxAt c.size (w.heap.size) rfl #[.int .i64 t.ix, .int .i64 t.tm, .int .i64 t.ho, .int .i64 t.ep, .int .i64 t.un, .slice Aa5 na5 ca5] 51
  replace c := c.alloc c.size (.cells #[.int .i64 t.ix, .int .i64 t.tm, .int .i64 t.ho, .int .i64 t.ep, .int .i64 t.un, .slice Aa5 na5 ca5] 51)
  replace S := S.boxAt c.size (w.heap.size + 1) (by simp) #[.int .i64 t.ix, .int .i64 t.tm, .int .i64 t.ho, .int .i64 t.ep, .int .i64 t.un, .slice Ab5 nb5 cb5] 51
  replace c := c.alloc c.size (.cells #[.int .i64 t.ix, .int .i64 t.tm, .int .i64 t.ho, .int .i64 t.ep, .int .i64 t.un, .slice Ab5 nb5 cb5] 51)
  go_enter Try.func29, Try.ntmps29
  go_wp2_with fail
  generalize (w.alloc (.cells #[.int .i64 t.ix, .int .i64 t.tm, .int .i64 t.ho, .int .i64 t.ep, .int .i64 t.un, .slice Aa5 na5 ca5] 51)).alloc (.cells #[.int .i64 t.ix, .int .i64 t.tm, .int .i64 t.ho, .int .i64 t.ep, .int .i64 t.un, .slice Ab5 nb5 cb5] 51) = w1 at *
  refine (eqDueS_yes _ _ _ _ _ _ _ _ t.open_ _ (hr5.keep (c.mono hB)) (kr5.keep (c.mono hB')) (Nat.le_trans hB c.size) (Nat.le_trans hB' c.size) hz5).mono ?_
  rintro e w2 ⟨rfl, b⟩
  replace c := c.trans (b.mono c.size)
  replace S := S.keep b
  clear b
  have C := Lib.hid c
  clear S c h h' hr5 kr5
  go_wp2
  go_ret
  exact ⟨rfl, C.out⟩

set_option maxHeartbeats 6400000 in
theorem markJobs_any (v0 v1 v2 v3 v4 v5 : Value) (t : JobsM) (fp : List Nat) (w : World) (o : Ow w t.cells [v0, v1, v2, v3, v4, v5] fp) (hnd : fp.Nodup) (hs : t.sz ≤ 1048577) (k : Int) (k0 : 0 ≤ k) (k1 : k ≤ 90000000000) :
    Calls Try.prog 30 #[.agg #[v0, v1, v2, v3, v4, v5], .int .i64 k] w fun e w' => ∃ t', e = .returned (.int .i64 (k + (t.n : Int))) ∧ Ow w' t'.cells [v0, v1, v2, v3, v4, v5] fp ∧ Touch fp w w' ∧ MarkedJobs t' k ∧ t'.n = t.n ∧ t'.sz = t.sz := by
  obtain ⟨Aa5, na5, ca5, rfl, rfl, rfl, rfl, rfl, rfl, _hr5⟩ := o.rd.jobsT
  have hz5 : djSz t.open_ ≤ 1048577 := by unfold JobsM.sz at hs; omega
  have h9 := jobs_n_le t hs
  have hna : t.n = djN t.open_ := rfl
  obtain ⟨f5, rfl, o5⟩ := Ow.jobsT o
  have n0 := hnd
  have n1 := (List.nodup_append.1 n0).2.1
  have S := Sep.nil w 0
  replace S := S.addOw o5 n0
  clear o o5 n0 n1
  have T := Touch.of_below ((Below.refl _ w).alloc (Nat.le_refl _) (.cells #[.int .i64 t.ix, .int .i64 t.tm, .int .i64 t.ho, .int .i64 t.ep, .int .i64 t.un, .slice Aa5 na5 ca5] 51)) (f5 ++ ([]))
  replace S := S.boxAt (Nat.zero_le _) w.heap.size rfl #[.int .i64 t.ix, .int .i64 t.tm, .int .i64 t.ho, .int .i64 t.ep, .int .i64 t.un, .slice Aa5 na5 ca5] 51
  go_enter Try.func30, Try.ntmps30
  go_wp2_with fail
  generalize w.alloc (.cells #[.int .i64 t.ix, .int .i64 t.tm, .int .i64 t.ho, .int .i64 t.ep, .int .i64 t.un, .slice Aa5 na5 ca5] 51) = w1 at *
  refine (markDueS_any _ _ _ t.open_ f5 _ (S.own_ 1 rfl) (S.nodup_own 1 rfl) hz5 _ (by omega) (by omega)).mono ?_
  rintro e w2 ⟨d5, rfl, o, t', m5, en5, es5⟩
  replace T := T.trans (t'.mono (fun p hp => by simp [hp]))
  replace S := S.mark 1 rfl t' o
  clear o t'
  have M5 := Lib.hid m5
  clear m5
  have R0 : Ow _ (JobsM.cells (⟨t.ix, t.tm, t.ho, t.ep, t.un, d5⟩)) [.int .i64 t.ix, .int .i64 t.tm, .int .i64 t.ho, .int .i64 t.ep, .int .i64 t.un, .slice Aa5 na5 ca5] (f5 ++ ([])) := (.int (.int (.int (.int (.int (Ow.append (S.own_ 1 rfl) .nil))))))
  have R := Lib.hid R0
  have TT := Lib.hid T
  have E := Lib.hid (And.intro hna (And.intro (en5) (es5)))
  clear S T R0 hna en5 es5
  go_wp2
  go_ret
  obtain ⟨hna, en, es⟩ := E.out
  obtain en5 := en
  obtain es5 := es
  refine ⟨⟨t.ix, t.tm, t.ho, t.ep, t.un, d5⟩, ?_, R.out, TT.out, ?_, ?_, ?_⟩
  · refine congrArg Ending.returned (congrArg (Value.int .i64) ?_)
    omega
  · show MarkedDueS d5 (k)
    exact M5.out
  · show djN d5 = djN t.open_
    omega
  · show djSz d5 = djSz t.open_
    omega

set_option maxHeartbeats 6400000 in
theorem szJobs_any (v0 v1 v2 v3 v4 v5 : Value) (t : JobsM) (B : Nat) (L : Int) (w : World) (h : Rd w B t.cells [v0, v1, v2, v3, v4, v5]) (hB : B ≤ w.heap.size) (l0 : 0 ≤ L) (l1 : L ≤ 1048576) :
    Calls Try.prog 25 #[.agg #[v0, v1, v2, v3, v4, v5], .int .i64 L] w fun e w' => e = .returned (.int .i64 (left L t.sz)) ∧ Below w.heap.size w w' := by
  obtain ⟨Aa5, na5, ca5, rfl, rfl, rfl, rfl, rfl, rfl, hr5⟩ := h.jobsT
  have HD := Lib.hid (show t.sz = djSz t.open_ from rfl)
  have S := Sep.nil w w.heap.size
  have c := Below.refl w.heap.size w
  replace S := S.boxAt c.size (w.heap.size) rfl #[.int .i64 t.ix, .int .i64 t.tm, .int .i64 t.ho, .int .i64 t.ep, .int .i64 t.un, .slice Aa5 na5 ca5] 46
  replace c := c.alloc c.size (.cells #[.int .i64 t.ix, .int .i64 t.tm, .int .i64 t.ho, .int .i64 t.ep, .int .i64 t.un, .slice Aa5 na5 ca5] 46)
  go_enter Try.func25, Try.ntmps25
  go_wp2_with fail
  generalize w.alloc (.cells #[.int .i64 t.ix, .int .i64 t.tm, .int .i64 t.ho, .int .i64 t.ep, .int .i64 t.un, .slice Aa5 na5 ca5] 46) = w1 at *
  refine (szDueS_any _ _ _ t.open_ _ _ _ (hr5.keep (c.mono hB)) (Nat.le_trans hB c.size) (by omega) (by omega)).mono ?_
  rintro e w2 ⟨rfl, b⟩
  replace c := c.trans (b.mono c.size)
  replace S := S.keep b
  clear b
  obtain ⟨s5, hsv5⟩ : ∃ q, q = djSz t.open_ := ⟨_, rfl⟩
  rw [← hsv5]
  have HV5 := Lib.hid hsv5
  clear hsv5
  by_cases hc5 : (s5 : Int) ≤ L
  case neg =>
    rw [left, if_neg (by omega)]
    have C := Lib.hid c
    clear S c h hr5
    go_wp2
    go_ret
    refine ⟨ret_i64 ?_, C.out⟩
    rw [left, HD.out, ← HV5.out, if_neg (by omega)]
  rw [left, if_pos (by omega)]
  have q5 : ¬ (L - (s5 : Int) < 0) := by omega
  have C := Lib.hid c
  clear S c h hr5
  go_wp2
  go_ret
  refine ⟨ret_i64 ?_, C.out⟩
  rw [left, HD.out, ← HV5.out, if_pos (by omega)]

end Go.Proofs.Ytafbjmhjjbfaeaa

/-
  Lists of jobs as plain data, and the laws' helpers for them (by program, wip/gen/genlet0.py).
-/
import Derived.Test.YtepnghjmpbfmcaaDue
import Derived.RegionTactic
import Derived.BigQuiet
namespace Go.Proofs.Ytepnghjmpbfmcaa
set_option maxRecDepth 100000
open Go.RowKit

structure JobsM where
  ix : Int
  tm : Int
  ho : Int
  ep : Int
  un : Int
  open_ : List TimerM
def JobsM.cells (t : JobsM) : List Dat := [.int t.ix] ++ ([.int t.tm] ++ ([.int t.ho] ++ ([.int t.ep] ++ ([.int t.un] ++ ([djD t.open_])))))
def JobsM.sz (t : JobsM) : Nat := djSz t.open_
def JobsM.n (t : JobsM) : Nat := djN t.open_
def MarkedJobs (t : JobsM) (k : Int) : Prop := MarkedDueS t.open_ (k)
def MadeJobs (w : World) (t : JobsM) (e : Ending) (w' : World) : Prop :=
  ∃ (x0 : Int) (x1 : Int) (x2 : Int) (x3 : Int) (x4 : Int) (A5 : Option Addr) (n5 c5 : Nat), e = .returned (.agg #[.int .i64 x0, .int .i64 x1, .int .i64 x2, .int .i64 x3, .int .i64 x4, .slice A5 n5 c5]) ∧ Has w' w.heap.size t.cells [.int .i64 x0, .int .i64 x1, .int .i64 x2, .int .i64 x3, .int .i64 x4, .slice A5 n5 c5] ∧ Below w.heap.size w w'
theorem Rd.jobsT {w : World} {B : Nat} {t : JobsM} {v0 v1 v2 v3 v4 v5 : Value} (h : Rd w B t.cells [v0, v1, v2, v3, v4, v5]) : ∃ (A5 : Option Addr) (n5 c5 : Nat), v0 = .int .i64 t.ix ∧ v1 = .int .i64 t.tm ∧ v2 = .int .i64 t.ho ∧ v3 = .int .i64 t.ep ∧ v4 = .int .i64 t.un ∧ v5 = .slice A5 n5 c5 ∧ Rd w B ([djD t.open_]) [.slice A5 n5 c5] := by
  have g0 : Rd w B ([.int t.ix] ++ ([.int t.tm] ++ ([.int t.ho] ++ ([.int t.ep] ++ ([.int t.un] ++ ([djD t.open_])))))) [v0, v1, v2, v3, v4, v5] := h
  obtain ⟨p0, g1⟩ := Rd.cut (ds := [.int t.ix]) (vs := [v0]) (vs' := [v1, v2, v3, v4, v5]) g0 rfl
  obtain ⟨e0, _⟩ := Rd.int_cons p0
  obtain ⟨p1, g2⟩ := Rd.cut (ds := [.int t.tm]) (vs := [v1]) (vs' := [v2, v3, v4, v5]) g1 rfl
  obtain ⟨e1, _⟩ := Rd.int_cons p1
  obtain ⟨p2, g3⟩ := Rd.cut (ds := [.int t.ho]) (vs := [v2]) (vs' := [v3, v4, v5]) g2 rfl
  obtain ⟨e2, _⟩ := Rd.int_cons p2
  obtain ⟨p3, g4⟩ := Rd.cut (ds := [.int t.ep]) (vs := [v3]) (vs' := [v4, v5]) g3 rfl
  obtain ⟨e3, _⟩ := Rd.int_cons p3
  obtain ⟨p4, g5⟩ := Rd.cut (ds := [.int t.un]) (vs := [v4]) (vs' := [v5]) g4 rfl
  obtain ⟨e4, _⟩ := Rd.int_cons p4
  have p5 := g5
  obtain ⟨A5, n5, c5, e5, _⟩ := Rd.djs p5
  subst e0
  subst e1
  subst e2
  subst e3
  subst e4
  subst e5
  exact ⟨A5, n5, c5, rfl, rfl, rfl, rfl, rfl, rfl, p5⟩
theorem Ow.jobsT {w : World} {t : JobsM} {v0 v1 v2 v3 v4 v5 : Value} {fp : List Nat} (h : Ow w t.cells [v0, v1, v2, v3, v4, v5] fp) : ∃ f5, fp = f5 ++ ([]) ∧ Ow w ([djD t.open_]) [v5] f5 := by
  have g0 : Ow w ([.int t.ix] ++ ([.int t.tm] ++ ([.int t.ho] ++ ([.int t.ep] ++ ([.int t.un] ++ ([djD t.open_] ++ ([]))))))) [v0, v1, v2, v3, v4, v5] fp := h
  obtain ⟨_, g1⟩ := Ow.int_cons g0
  obtain ⟨_, g2⟩ := Ow.int_cons g1
  obtain ⟨_, g3⟩ := Ow.int_cons g2
  obtain ⟨_, g4⟩ := Ow.int_cons g3
  obtain ⟨_, g5⟩ := Ow.int_cons g4
  obtain ⟨f5, r5, rfl, o5, g6⟩ := Ow.cut (ds := [djD t.open_]) (vs := [v5]) (vs' := []) g5 rfl
  have gz := Ow.nil_foot g6
  subst gz
  exact ⟨f5, rfl, o5⟩
theorem jobs_n9 (t : JobsM) : t.n ≤ 9 * t.sz := by
  have h0 : djN t.open_ ≤ 9 * (djSz t.open_) := (Nat.le_trans (djN_le t.open_) (Nat.mul_le_mul_right _ (by decide)))
  show djN t.open_ ≤ 9 * (djSz t.open_)
  omega
theorem jobs_n_le (t : JobsM) (h : t.sz ≤ 1048577) : t.n ≤ 9437193 := by
  have := jobs_n9 t
  omega

set_option maxHeartbeats 6400000 in
theorem eqJobs_yes (v0 v1 v2 v3 v4 v5 u0 u1 u2 u3 u4 u5 : Value) (B B' : Nat) (t : JobsM) (w : World) (h : Rd w B t.cells [v0, v1, v2, v3, v4, v5]) (h' : Rd w B' t.cells [u0, u1, u2, u3, u4, u5]) (hB : B ≤ w.heap.size) (hB' : B' ≤ w.heap.size) (hs : t.sz ≤ 1048577) :
    Calls Try.prog 10 #[.agg #[v0, v1, v2, v3, v4, v5], .agg #[u0, u1, u2, u3, u4, u5]] w fun e w' => e = .returned (.bool true) ∧ Below w.heap.size w w' := by
  obtain ⟨Aa5, na5, ca5, rfl, rfl, rfl, rfl, rfl, rfl, hr5⟩ := h.jobsT
  obtain ⟨Ab5, nb5, cb5, rfl, rfl, rfl, rfl, rfl, rfl, kr5⟩ := h'.jobsT
  have S := Sep.nil w w.heap.size
  have c := Below.refl w.heap.size w
  have hz5 : djSz t.open_ ≤ 1048577 := by unfold JobsM.sz at hs; omega
  replace S := S.boxAt c.size (w.heap.size) rfl #[.int .i64 t.ix, .int .i64 t.tm, .int .i64 t.ho, .int .i64 t.ep, .int .i64 t.un, .slice Aa5 na5 ca5] 25
  replace c := c.alloc c.size (.cells #[.int .i64 t.ix, .int .i64 t.tm, .int .i64 t.ho, .int .i64 t.ep, .int .i64 t.un, .slice Aa5 na5 ca5] 25)
  replace S := S.boxAt c.size (w.heap.size + 1) (by simp) #[.int .i64 t.ix, .int .i64 t.tm, .int .i64 t.ho, .int .i64 t.ep, .int .i64 t.un, .slice Ab5 nb5 cb5] 25
  replace c := c.alloc c.size (.cells #[.int .i64 t.ix, .int .i64 t.tm, .int .i64 t.ho, .int .i64 t.ep, .int .i64 t.un, .slice Ab5 nb5 cb5] 25)
  go_enter Try.func10, Try.ntmps10
  go_wp2_with fail
  generalize (w.alloc (.cells #[.int .i64 t.ix, .int .i64 t.tm, .int .i64 t.ho, .int .i64 t.ep, .int .i64 t.un, .slice Aa5 na5 ca5] 25)).alloc (.cells #[.int .i64 t.ix, .int .i64 t.tm, .int .i64 t.ho, .int .i64 t.ep, .int .i64 t.un, .slice Ab5 nb5 cb5] 25) = w1 at *
  refine (eqDueS_yes _ _ _ _ _ _ _ _ t.open_ _ (hr5.keep (c.mono hB)) (kr5.keep (c.mono hB')) (Nat.le_trans hB c.size) (Nat.le_trans hB' c.size) hz5).mono ?_
  rintro e w2 ⟨rfl, b⟩
  replace c := c.trans (b.mono c.size)
  replace S := S.keep b
  clear b
  have C := Lib.hid c
  clear S c h h' hr5 kr5
  go_wp2
  go_ret
  exact ⟨rfl, C.out⟩

set_option maxHeartbeats 6400000 in
theorem markJobs_any (v0 v1 v2 v3 v4 v5 : Value) (t : JobsM) (fp : List Nat) (w : World) (o : Ow w t.cells [v0, v1, v2, v3, v4, v5] fp) (hnd : fp.Nodup) (hs : t.sz ≤ 1048577) (k : Int) (k0 : 0 ≤ k) (k1 : k ≤ 90000000000) :
    Calls Try.prog 13 #[.agg #[v0, v1, v2, v3, v4, v5], .int .i64 k] w fun e w' => ∃ t', e = .returned (.int .i64 (k + (t.n : Int))) ∧ Ow w' t'.cells [v0, v1, v2, v3, v4, v5] fp ∧ Touch fp w w' ∧ MarkedJobs t' k ∧ t'.n = t.n ∧ t'.sz = t.sz := by
  obtain ⟨Aa5, na5, ca5, rfl, rfl, rfl, rfl, rfl, rfl, _hr5⟩ := o.rd.jobsT
  have hz5 : djSz t.open_ ≤ 1048577 := by unfold JobsM.sz at hs; omega
  have h9 := jobs_n_le t hs
  have hna : t.n = djN t.open_ := rfl
  obtain ⟨f5, rfl, o5⟩ := Ow.jobsT o
  have n0 := hnd
  have n1 := (List.nodup_append.1 n0).2.1
  have S := Sep.nil w 0
  replace S := S.addOw o5 n0
  clear o o5 n0 n1
  have T := Touch.of_below ((Below.refl _ w).alloc (Nat.le_refl _) (.cells #[.int .i64 t.ix, .int .i64 t.tm, .int .i64 t.ho, .int .i64 t.ep, .int .i64 t.un, .slice Aa5 na5 ca5] 25)) (f5 ++ ([]))
  replace S := S.boxAt (Nat.zero_le _) w.heap.size rfl #[.int .i64 t.ix, .int .i64 t.tm, .int .i64 t.ho, .int .i64 t.ep, .int .i64 t.un, .slice Aa5 na5 ca5] 25
  go_enter Try.func13, Try.ntmps13
  go_wp2_with fail
  generalize w.alloc (.cells #[.int .i64 t.ix, .int .i64 t.tm, .int .i64 t.ho, .int .i64 t.ep, .int .i64 t.un, .slice Aa5 na5 ca5] 25) = w1 at *
  refine (markDueS_any _ _ _ t.open_ f5 _ (S.own_ 1 rfl) (S.nodup_own 1 rfl) hz5 _ (by omega) (by omega)).mono ?_
  rintro e w2 ⟨d5, rfl, o, t', m5, en5, es5⟩
  replace T := T.trans (t'.mono (fun p hp => by simp [hp]))
  replace S := S.mark 1 rfl t' o
  clear o t'
  have M5 := Lib.hid m5
  clear m5
  have R0 : Ow _ (JobsM.cells (⟨t.ix, t.tm, t.ho, t.ep, t.un, d5⟩)) [.int .i64 t.ix, .int .i64 t.tm, .int .i64 t.ho, .int .i64 t.ep, .int .i64 t.un, .slice Aa5 na5 ca5] (f5 ++ ([])) := (.int (.int (.int (.int (.int (Ow.append (S.own_ 1 rfl) .nil))))))
  have R := Lib.hid R0
  have TT := Lib.hid T
  have E := Lib.hid (And.intro hna (And.intro (en5) (es5)))
  clear S T R0 hna en5 es5
  go_wp2
  go_ret
  obtain ⟨hna, en, es⟩ := E.out
  obtain en5 := en
  obtain es5 := es
  refine ⟨⟨t.ix, t.tm, t.ho, t.ep, t.un, d5⟩, ?_, R.out, TT.out, ?_, ?_, ?_⟩
  · refine congrArg Ending.returned (congrArg (Value.int .i64) ?_)
    omega
  · show MarkedDueS d5 (k)
    exact M5.out
  · show djN d5 = djN t.open_
    omega
  · show djSz d5 = djSz t.open_
    omega

set_option maxHeartbeats 6400000 in
theorem heldJobs_any (v0 v1 v2 v3 v4 v5 : Value) (t : JobsM) (B : Nat) (w : World) (h : Rd w B t.cells [v0, v1, v2, v3, v4, v5]) (hB : B ≤ w.heap.size) (hs : t.sz ≤ 1048577) (k : Int) (k0 : 0 ≤ k) (k1 : k ≤ 90000000000) (hm : MarkedJobs t k) :
    Calls Try.prog 14 #[.agg #[v0, v1, v2, v3, v4, v5], .int .i64 k] w fun e w' => e = .returned (.int .i64 (k + (t.n : Int))) ∧ Below w.heap.size w w' := by
  obtain ⟨Aa5, na5, ca5, rfl, rfl, rfl, rfl, rfl, rfl, hr5⟩ := h.jobsT
  have S := Sep.nil w w.heap.size
  have c := Below.refl w.heap.size w
  have hz5 : djSz t.open_ ≤ 1048577 := by unfold JobsM.sz at hs; omega
  have h9 := jobs_n_le t hs
  have hna : t.n = djN t.open_ := rfl
  have m5 : MarkedDueS t.open_ k := hm
  replace S := S.boxAt c.size (w.heap.size) rfl #[.int .i64 t.ix, .int .i64 t.tm, .int .i64 t.ho, .int .i64 t.ep, .int .i64 t.un, .slice Aa5 na5 ca5] 25
  replace c := c.alloc c.size (.cells #[.int .i64 t.ix, .int .i64 t.tm, .int .i64 t.ho, .int .i64 t.ep, .int .i64 t.un, .slice Aa5 na5 ca5] 25)
  go_enter Try.func14, Try.ntmps14
  go_wp2_with fail
  generalize w.alloc (.cells #[.int .i64 t.ix, .int .i64 t.tm, .int .i64 t.ho, .int .i64 t.ep, .int .i64 t.un, .slice Aa5 na5 ca5] 25) = w1 at *
  refine (heldDueS_any _ _ _ t.open_ _ _ (hr5.keep (c.mono hB)) (Nat.le_trans hB c.size) hz5 _ (by omega) (by omega) m5).mono ?_
  rintro e w2 ⟨rfl, b⟩
  replace c := c.trans (b.mono c.size)
  replace S := S.keep b
  clear b
  have q5 : ¬ (k + (djN t.open_ : Int) < 0) := by omega
  have C := Lib.hid c
  have HN := Lib.hid hna
  clear S c h hna hr5 m5
  go_wp2
  go_ret
  refine ⟨congrArg Ending.returned (congrArg (Value.int .i64) ?_), C.out⟩
  rw [HN.out]

end Go.Proofs.Ytepnghjmpbfmcaa

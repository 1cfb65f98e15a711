/-
  Feeds as plain data, and the laws' helpers for them (by program, wip/gen/genlet0.py).
-/
import Derived.Test.YtepnghjmpbfmcaaEnt
import Derived.RegionTactic
import Derived.BigQuiet
namespace Go.Proofs.Ytepnghjmpbfmcaa
set_option maxRecDepth 100000
open Go.RowKit

structure FeedM where
  base : Int
  last : Int
  ents : List EntM
def FeedM.cells (t : FeedM) : List Dat := [.int t.base] ++ ([.int t.last] ++ ([entD t.ents]))
def FeedM.sz (t : FeedM) : Nat := entSz t.ents
def FeedM.n (t : FeedM) : Nat := entN t.ents
def MarkedFeed (t : FeedM) (k : Int) : Prop := MarkedEntryS t.ents (k)
def MadeFeed (w : World) (t : FeedM) (e : Ending) (w' : World) : Prop :=
  ∃ (x0 : Int) (x1 : Int) (A2 : Option Addr) (n2 c2 : Nat), e = .returned (.agg #[.int .i64 x0, .int .i64 x1, .slice A2 n2 c2]) ∧ Has w' w.heap.size t.cells [.int .i64 x0, .int .i64 x1, .slice A2 n2 c2] ∧ Below w.heap.size w w'
theorem Rd.feedT {w : World} {B : Nat} {t : FeedM} {v0 v1 v2 : Value} (h : Rd w B t.cells [v0, v1, v2]) : ∃ (A2 : Option Addr) (n2 c2 : Nat), v0 = .int .i64 t.base ∧ v1 = .int .i64 t.last ∧ v2 = .slice A2 n2 c2 ∧ Rd w B ([entD t.ents]) [.slice A2 n2 c2] := by
  have g0 : Rd w B ([.int t.base] ++ ([.int t.last] ++ ([entD t.ents]))) [v0, v1, v2] := h
  obtain ⟨p0, g1⟩ := Rd.cut (ds := [.int t.base]) (vs := [v0]) (vs' := [v1, v2]) g0 rfl
  obtain ⟨e0, _⟩ := Rd.int_cons p0
  obtain ⟨p1, g2⟩ := Rd.cut (ds := [.int t.last]) (vs := [v1]) (vs' := [v2]) g1 rfl
  obtain ⟨e1, _⟩ := Rd.int_cons p1
  have p2 := g2
  obtain ⟨A2, n2, c2, e2, _⟩ := Rd.ents p2
  subst e0
  subst e1
  subst e2
  exact ⟨A2, n2, c2, rfl, rfl, rfl, p2⟩
theorem Ow.feedT {w : World} {t : FeedM} {v0 v1 v2 : Value} {fp : List Nat} (h : Ow w t.cells [v0, v1, v2] fp) : ∃ f2, fp = f2 ++ ([]) ∧ Ow w ([entD t.ents]) [v2] f2 := by
  have g0 : Ow w ([.int t.base] ++ ([.int t.last] ++ ([entD t.ents] ++ ([])))) [v0, v1, v2] fp := h
  obtain ⟨_, g1⟩ := Ow.int_cons g0
  obtain ⟨_, g2⟩ := Ow.int_cons g1
  obtain ⟨f2, r2, rfl, o2, g3⟩ := Ow.cut (ds := [entD t.ents]) (vs := [v2]) (vs' := []) g2 rfl
  have gz := Ow.nil_foot g3
  subst gz
  exact ⟨f2, rfl, o2⟩
theorem feed_n9 (t : FeedM) : t.n ≤ 9 * t.sz := by
  have h0 : entN t.ents ≤ 9 * (entSz t.ents) := (Nat.le_trans (entN_le t.ents) (Nat.mul_le_mul_right _ (by decide)))
  show entN t.ents ≤ 9 * (entSz t.ents)
  omega
theorem feed_n_le (t : FeedM) (h : t.sz ≤ 1048577) : t.n ≤ 9437193 := by
  have := feed_n9 t
  omega

end Go.Proofs.Ytepnghjmpbfmcaa

/-
  Chapter 11: feeds as mathematics (by program, wip/gen/genletm.py).
-/
import Derived.Test.YtepnghjmpbfmcaaLetN
import Derived.Test.YtepnghjmpbfmcaaFeed
namespace Go.Proofs.Ytepnghjmpbfmcaa
set_option maxRecDepth 100000
open Go.RowKit

def feedIn (f : FeedM) : Bool := decide (f.ents.length = 0) || (decide (f.base < (f.ents.getD 0 ent0).idx) && decide ((f.ents.getD (f.ents.length - 1) ent0).idx ≤ f.last))
def feedOkB (f : FeedM) : Bool := inB f.last 0 2000 && (inB f.base 0 f.last && (decide (f.ents.length ≤ 3) && (entsB f.ents && feedIn f)))
def feed0 : FeedM := ⟨0, 0, []⟩
def entsNs (l : List EntM) : List Int := l.flatMap entNs
def feedNs (f : FeedM) : List Int := [f.base, f.last] ++ entsNs f.ents
def feedRowM (f : FeedM) : List Int := if feedOkB f = true then 4 :: feedNs f else []
theorem entsNs_len (l : List EntM) : (entsNs l).length = 9 * l.length := by
  unfold entsNs
  rw [List.length_flatMap]
  exact entN_eq l
theorem entsB_len {l : List EntM} (h : entsB l = true) : l.length ≤ 2000 := ((entsB_iff l).1 h).1
theorem feedOkB_iff (f : FeedM) : feedOkB f = true ↔ (0 ≤ f.last ∧ f.last ≤ 2000) ∧ (0 ≤ f.base ∧ f.base ≤ f.last) ∧ f.ents.length ≤ 3 ∧ entsB f.ents = true ∧ feedIn f = true := by
  unfold feedOkB
  simp only [Bool.and_eq_true, inB_iff, decide_eq_true_eq]
theorem feedRowM_sz (f : FeedM) : (feedRowM f).length ≤ 1048577 := by
  unfold feedRowM
  split
  · rename_i h
    have h3 := ((feedOkB_iff f).1 h).2.2.1
    have h4 := entsNs_len f.ents
    simp [feedNs]
    omega
  · simp
/-- The first k entries that follow each other in a row; the first k open jobs. -/
def entsFrom (d : List Int) (k : Nat) : List EntM := (List.range k).map fun j => ofEnt (d.drop (9 * j))
def ofFeed (d : List Int) : FeedM := ⟨d.getD 1 0, d.getD 2 0, entsFrom (d.drop 3) ((d.length - 3) / 9)⟩
def rowFeedM (d : List Int) : FeedM × Bool := if 3 ≤ d.length ∧ d.length ≤ 30 ∧ d.length % 9 = 3 ∧ d.getD 0 0 = 4 ∧ feedOkB (ofFeed d) = true then (ofFeed d, true) else (feed0, false)
theorem entsFrom_len (d : List Int) (k : Nat) : (entsFrom d k).length = k := by simp [entsFrom]
theorem entsFrom_succ (d : List Int) (k : Nat) : entsFrom d (k + 1) = entsFrom d k ++ [ofEnt (d.drop (9 * k))] := by
  unfold entsFrom
  rw [List.range_succ, List.map_append]
  rfl
theorem rowFeedM_sz (d : List Int) : (rowFeedM d).1.sz ≤ 1048577 := by
  unfold rowFeedM
  split
  · rename_i h
    have h3 := ((feedOkB_iff _).1 h.2.2.2.2).2.2.1
    show entSz (ofFeed d).ents ≤ 1048577
    unfold entSz
    omega
  · show entSz [] ≤ 1048577
    simp [entSz]
theorem feed_rd {w : World} {B : Nat} {t : FeedM} {x0 x1 : Int} {A : Option Addr} {n c : Nat} (h : Rd w B t.cells [.int .i64 x0, .int .i64 x1, .slice A n c]) : ∃ l, t = ⟨x0, x1, l⟩ ∧ Rd w B [entD l] [.slice A n c] := by
  obtain ⟨a0, a1, l⟩ := t
  obtain ⟨A5, n5, c5, e0, e1, e5, hr⟩ := h.feedT
  injection e0 with _ q0
  injection e1 with _ q1
  injection e5 with q5 q6 q7
  subst q0 q1 q5 q6 q7
  exact ⟨_, rfl, hr⟩

end Go.Proofs.Ytepnghjmpbfmcaa

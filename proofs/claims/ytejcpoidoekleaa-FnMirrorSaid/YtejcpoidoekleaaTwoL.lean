/-
  What the law FnMirrorFalls says, as plain mathematics: a sector that no write waits for is read after a crash as before.
-/
import Derived.Test.YtejcpoidoekleaaTwoD2
import Derived.Test.YtejcpoidoekleaaTwoI2
import Derived.Test.YtejcpoidoekleaaTwoI5
import Derived.Test.YtejcpoidoekleaaKI
import Derived.Test.YtejcpoidoekleaaOrdH
import Derived.Test.YtejcpoidoekleaaDskLk
import Derived.Deep.RegionHeld3
namespace Go.Proofs.Ytejcpoidoekleaa
set_option maxRecDepth 100000
open Go.RowKit

theorem rdWaitLen {w : World} {B : Nat} {d : DiskM} {A : Option Addr} {n c : Nat} {v : Value} (h : Rd w B d.cells [v, .slice A n c]) : d.wait.length = n := by
  obtain ⟨_, _, _, _, _, _, _, e, _, h2⟩ := h.disk
  injection e with e1 e2 e3
  subst e1 e2 e3
  obtain ⟨_, _, _, e, hl, _⟩ := h2.wait
  injection e with e1 e2 e3
  subst e1 e2 e3
  exact hl
theorem bigt_any (A : Option Addr) (n c : Nat) (w : World) :
    Calls Try.prog 13 #[.slice A n c] w fun e w' => e = .returned (.bool (decide (4096 < n))) ∧ w = w' := by
  go_enter Try.func13, Try.ntmps13
  go_wp2
  go_ret
  exact ⟨ret_bool (by simp; omega), rfl⟩
theorem below_then {a b c : World} (h : Below a.heap.size a b) (k : Below b.heap.size b c) : Below a.heap.size a c := h.trans (k.mono h.size)
theorem hasKept_len {w : World} {base : Nat} {l : List (List Int)} {A : Option Addr} {n c : Nat} (h : Has w base [keptD l] [.slice A n c]) : l.length = n := by
  obtain ⟨_, o, _⟩ := h
  exact keptD_len o
theorem likeRows_two (A A' : Option Addr) (n n' c c' B B' : Nat) (l : List (List Int)) (w : World) (h : Rd w B [keptD l] [.slice A n c]) (h' : Rd w B' [keptD l] [.slice A' n' c']) (ht : rowsSz l ≤ 1048577) :
    Calls Try.prog 27 #[.slice A n c, .slice A' n' c'] w fun e w' => e = .returned (.bool true) ∧ Drew w w' := by
  obtain ⟨_, _, _, e, hl, _⟩ := h.kept
  injection e with e1 e2 e3
  subst e1 e2 e3
  obtain ⟨_, _, _, e, hl', _⟩ := h'.kept
  injection e with e1 e2 e3
  subst e1 e2 e3
  obtain rfl : n = n' := by rw [← hl, hl']
  exact likeRows_yes A A' n c c' B B' l w h h' ht
theorem Rd.onT {w w' : World} {ds : List Dat} {vs : List Value} (h : Rd w w.heap.size ds vs) (b : Below w.heap.size w w') : Rd w' w'.heap.size ds vs := (h.keep b).up b.size

/-- Does one of the first k writes go to sector i? -/
def hitTo (l : List (Int × List Int)) (i : Int) : Nat → Bool
  | 0 => false
  | k + 1 => hitTo l i k || decide ((l.getD k (0, [])).1 = i)
theorem hitTo_at {l : List (Int × List Int)} {i : Int} {k : Nat} (hk : k < l.length) : hitTo l i (k + 1) = (hitTo l i k || decide (l[k].1 = i)) := by
  have : l.getD k (0, []) = l[k] := by simp [List.getD, List.getElem?_eq_getElem hk]
  rw [hitTo, this]
theorem hitTo_cnt {l : List (Int × List Int)} {i : Int} : ∀ k, hitTo l i k = false → cntTo l i k = 0
  | 0, _ => rfl
  | k + 1, h => by
    rw [hitTo, Bool.or_eq_false_iff] at h
    have h2 : ¬ ((l.getD k (0, [])).1 = i) := by simpa using h.2
    rw [cntTo, if_neg h2]
    exact hitTo_cnt k h.1
theorem hitTo_last {l : List (Int × List Int)} {i : Int} : ∀ k, hitTo l i k = false → lastTo l i k = none
  | 0, _ => rfl
  | k + 1, h => by
    rw [hitTo, Bool.or_eq_false_iff] at h
    have h2 : ¬ ((l.getD k (0, [])).1 = i) := by simpa using h.2
    rw [lastTo, if_neg h2]
    exact hitTo_last k h.1
/-- A sector that no write waits for is read as before the crash. -/
theorem read_fallen {d : DiskM} (h : diskOk d = true) (fs : List Int) {I : Nat} (hI : I < d.kept.length) (hn : hitTo d.wait (I : Int) d.wait.length = false) : (readAt (fallen d fs) (I : Int)).1 = (readAt d (I : Int)).1 := by
  have hf := fallen_ok h fs
  have hl := fallen_lenT h fs
  have hs : hasS d (I : Int) = true := by simp [hasS]; omega
  have hs2 : hasS (fallen d fs) (I : Int) = true := by unfold hasS; rw [hl]; exact hs
  have hw : (fallen d fs).wait = [] := by simp [fallen, h, fall]
  unfold readAt
  rw [if_pos ⟨hf, hs2⟩, if_pos ⟨h, hs⟩, hw, hitTo_last _ hn]
  simpa [lastTo] using fallen_at h fs hI (hitTo_cnt _ hn)
theorem right_fallen {t : TwoM} (h : twoOk t = true) (fs : List Int) {I : Nat} (hI : I < t.a.kept.length) (ha : hitTo t.a.wait (I : Int) t.a.wait.length = false) (hb : hitTo t.b.wait (I : Int) t.b.wait.length = false) : rightAt (bothFallen t fs) (I : Int) = rightAt t (I : Int) := by
  obtain ⟨h1, h2, h3⟩ := twoOk_iff.1 h
  have e : bothFallen t fs = ⟨fallen t.a (second fs 0), fallen t.b (second fs 1)⟩ := by simp [bothFallen, h]
  have hf := bothFallen_ok h fs
  have hs : hasS t.a (I : Int) = true := by simp [hasS]; omega
  have hs2 : hasS (bothFallen t fs).a (I : Int) = true := by rw [e]; unfold hasS; rw [fallen_lenT h1]; exact hs
  have ea : rightOf (bothFallen t fs).a (I : Int) = rightOf t.a (I : Int) := by rw [e]; unfold rightOf; rw [read_fallen h1 _ hI ha]
  have eb : rightOf (bothFallen t fs).b (I : Int) = rightOf t.b (I : Int) := by rw [e]; unfold rightOf; rw [read_fallen h2 _ (by omega) hb]
  unfold rightAt
  rw [if_pos (show twoOk (bothFallen t fs) = true ∧ hasS (bothFallen t fs).a (I : Int) = true from ⟨hf, hs2⟩), if_pos (show twoOk t = true ∧ hasS t.a (I : Int) = true from ⟨h, hs⟩), ea, eb]

end Go.Proofs.Ytejcpoidoekleaa

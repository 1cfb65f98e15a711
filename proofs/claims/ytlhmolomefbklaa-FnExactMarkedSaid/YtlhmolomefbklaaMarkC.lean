/-
  Chapter 9: what each function of marks is to hand back, by name: for the model and for the program alike; and the forms that the exact laws ask for (by program, wip/gen/genmarkc.py).
-/
import Derived.Test.YtlhmolomefbklaaMarkN
import Derived.Test.YtlhmolomefbklaaMove
import Derived.RegionTactic
import Derived.BigQuiet
namespace Go.Proofs.Ytlhmolomefbklaa
set_option maxRecDepth 100000
open Go.RowKit

def MadeMB (w : World) (r : List MarkM × Bool) (e : Ending) (w' : World) : Prop :=
  ∃ (A : Option Addr) (n c : Nat), e = .returned (.tuple #[.slice A n c, .bool r.2]) ∧ Has w' w.heap.size [mrkD r.1] [.slice A n c] ∧ Below w.heap.size w w'
def CSeenOk (p : Nat) : Prop := ∀ (A : Option Addr) (n cc : Nat) (l : List MarkM) (w : World), Rd w w.heap.size [mrkD l] [.slice A n cc] → mrkSz l ≤ 1048577 → Calls Try.prog p #[.slice A n cc] w (fun e w' => e = .returned (.bool (seenB l)) ∧ Below w.heap.size w w')
def CMarkOf (p : Nat) : Prop := ∀ (A : Option Addr) (n cc : Nat) (l : List MarkM) (q : Int) (w : World), Rd w w.heap.size [mrkD l] [.slice A n cc] → mrkSz l ≤ 1048577 → Calls Try.prog p #[.slice A n cc, .int .i64 q] w (fun e w' => e = .returned (.agg #[.int .i64 (markOf l q).mc, .int .i64 (markOf l q).ms, .int .i64 (markOf l q).mi]) ∧ Below w.heap.size w w')
def CFreshIn (p : Nat) : Prop := ∀ (A : Option Addr) (n cc : Nat) (l : List MarkM) (q s : Int) (w : World), Rd w w.heap.size [mrkD l] [.slice A n cc] → mrkSz l ≤ 1048577 → Calls Try.prog p #[.slice A n cc, .int .i64 q, .int .i64 s] w (fun e w' => e = .returned (.bool (freshB l q s)) ∧ Below w.heap.size w w')
def CMarked (p : Nat) : Prop := ∀ (A : Option Addr) (n cc : Nat) (l : List MarkM) (e0 e1 e2 e3 e4 e5 e6 e7 e8 : Int) (w : World), Rd w w.heap.size [mrkD l] [.slice A n cc] → mrkSz l ≤ 1048577 → Calls Try.prog p #[.slice A n cc, .agg #[.int .i64 e0, .int .i64 e1, .int .i64 e2, .int .i64 e3, .int .i64 e4, .int .i64 e5, .int .i64 e6, .int .i64 e7, .int .i64 e8]] w (MadeMB w (markedM l ⟨e0, e1, e2, e3, e4, e5, e6, e7, e8⟩))
def CSeenOver (p : Nat) : Prop := ∀ (A : Option Addr) (n cc : Nat) (l : List MarkM) (A5 : Option Addr) (n5 c5 : Nat) (es : List EntM) (w : World), Rd w w.heap.size [mrkD l] [.slice A n cc] → mrkSz l ≤ 1048577 → Rd w w.heap.size [entD es] [.slice A5 n5 c5] → entSz es ≤ 1048577 → Calls Try.prog p #[.slice A n cc, .slice A5 n5 c5] w (MadeMB w (seenOverM l es))
def CLastSeen (p : Nat) : Prop := ∀ (A : Option Addr) (n cc : Nat) (l : List MarkM) (w : World), Rd w w.heap.size [mrkD l] [.slice A n cc] → mrkSz l ≤ 1048577 → Calls Try.prog p #[.slice A n cc] w (fun e w' => e = .returned (.int .i64 (lastS l)) ∧ Below w.heap.size w w')
def CSameSeen (p : Nat) : Prop := ∀ (A : Option Addr) (n cc : Nat) (l : List MarkM) (A2 : Option Addr) (n2 c2 : Nat) (r : List MarkM) (w : World), Rd w w.heap.size [mrkD l] [.slice A n cc] → mrkSz l ≤ 1048577 → Rd w w.heap.size [mrkD r] [.slice A2 n2 c2] → mrkSz r ≤ 1048577 → Calls Try.prog p #[.slice A n cc, .slice A2 n2 c2] w (fun e w' => e = .returned (.bool (sameMs l r)) ∧ Below w.heap.size w w')
theorem CSeenOk.at_ {p : Nat} (H : CSeenOk p) (A : Option Addr) (n cc : Nat) (l : List MarkM) (w : World) (h0 : Rd w w.heap.size [mrkD l] [.slice A n cc]) (h1 : mrkSz l ≤ 1048576) : Calls Try.prog p #[.slice A n cc] w (fun e w' => e = .returned (.bool (seenB l)) ∧ Below w.heap.size w w') := H A n cc l w h0 (by omega)
theorem CMarkOf.at_ {p : Nat} (H : CMarkOf p) (A : Option Addr) (n cc : Nat) (l : List MarkM) (q : Int) (w : World) (h0 : Rd w w.heap.size [mrkD l] [.slice A n cc]) (h1 : mrkSz l ≤ 1048576) : Calls Try.prog p #[.slice A n cc, .int .i64 q] w (fun e w' => e = .returned (.agg #[.int .i64 (markOf l q).mc, .int .i64 (markOf l q).ms, .int .i64 (markOf l q).mi]) ∧ Below w.heap.size w w') := H A n cc l q w h0 (by omega)
theorem CFreshIn.at_ {p : Nat} (H : CFreshIn p) (A : Option Addr) (n cc : Nat) (l : List MarkM) (q s : Int) (w : World) (h0 : Rd w w.heap.size [mrkD l] [.slice A n cc]) (h1 : mrkSz l ≤ 1048576) : Calls Try.prog p #[.slice A n cc, .int .i64 q, .int .i64 s] w (fun e w' => e = .returned (.bool (freshB l q s)) ∧ Below w.heap.size w w') := H A n cc l q s w h0 (by omega)
theorem CMarked.at_ {p : Nat} (H : CMarked p) (A : Option Addr) (n cc : Nat) (l : List MarkM) (e0 e1 e2 e3 e4 e5 e6 e7 e8 : Int) (w : World) (h0 : Rd w w.heap.size [mrkD l] [.slice A n cc]) (h1 : mrkSz l ≤ 1048576) : Calls Try.prog p #[.slice A n cc, .agg #[.int .i64 e0, .int .i64 e1, .int .i64 e2, .int .i64 e3, .int .i64 e4, .int .i64 e5, .int .i64 e6, .int .i64 e7, .int .i64 e8]] w (MadeMB w (markedM l ⟨e0, e1, e2, e3, e4, e5, e6, e7, e8⟩)) := H A n cc l e0 e1 e2 e3 e4 e5 e6 e7 e8 w h0 (by omega)
theorem CSeenOver.at_ {p : Nat} (H : CSeenOver p) (A : Option Addr) (n cc : Nat) (l : List MarkM) (A5 : Option Addr) (n5 c5 : Nat) (es : List EntM) (w : World) (h0 : Rd w w.heap.size [mrkD l] [.slice A n cc]) (h1 : mrkSz l ≤ 1048576) (h2 : Rd w w.heap.size [entD es] [.slice A5 n5 c5]) (h3 : entSz es ≤ 1048576) : Calls Try.prog p #[.slice A n cc, .slice A5 n5 c5] w (MadeMB w (seenOverM l es)) := H A n cc l A5 n5 c5 es w h0 (by omega) h2 (by omega)
theorem CLastSeen.at_ {p : Nat} (H : CLastSeen p) (A : Option Addr) (n cc : Nat) (l : List MarkM) (w : World) (h0 : Rd w w.heap.size [mrkD l] [.slice A n cc]) (h1 : mrkSz l ≤ 1048576) : Calls Try.prog p #[.slice A n cc] w (fun e w' => e = .returned (.int .i64 (lastS l)) ∧ Below w.heap.size w w') := H A n cc l w h0 (by omega)
theorem CSameSeen.at_ {p : Nat} (H : CSameSeen p) (A : Option Addr) (n cc : Nat) (l : List MarkM) (A2 : Option Addr) (n2 c2 : Nat) (r : List MarkM) (w : World) (h0 : Rd w w.heap.size [mrkD l] [.slice A n cc]) (h1 : mrkSz l ≤ 1048576) (h2 : Rd w w.heap.size [mrkD r] [.slice A2 n2 c2]) (h3 : mrkSz r ≤ 1048576) : Calls Try.prog p #[.slice A n cc, .slice A2 n2 c2] w (fun e w' => e = .returned (.bool (sameMs l r)) ∧ Below w.heap.size w w') := H A n cc l A2 n2 c2 r w h0 (by omega) h2 (by omega)
theorem markedM_sz (d : List MarkM) (e : EntM) (h : mrkSz d ≤ 1048576) : mrkSz (markedM d e).1 ≤ 1048577 := by
  unfold markedM
  split
  next hok =>
    split
    next hm => exact Nat.le_trans (seen_len (marked_ok hok hm)) (by decide)
    next => exact Nat.le_trans h (by decide)
  next => exact Nat.zero_le _
theorem seenOverM_sz (d : List MarkM) (es : List EntM) (h : mrkSz d ≤ 1048576) (_h : entSz es ≤ 1048576) : mrkSz (seenOverM d es).1 ≤ 1048577 := by
  unfold seenOverM
  split
  next hok =>
    split
    next =>
      split
      next ho =>
        have h1 := over_ok hok es.length (Nat.le_refl _) ((overB_iff d es).1 ho)
        rw [List.take_length] at h1
        exact Nat.le_trans (seen_len h1) (by decide)
      next => exact Nat.le_trans h (by decide)
    next => exact Nat.le_trans h (by decide)
  next => exact Nat.zero_le _

end Go.Proofs.Ytlhmolomefbklaa

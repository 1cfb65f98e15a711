/- Parts of my texts: RecB RecK RecSC. -/
import Derived.Test.YtmjifhjhialcbaaGreatK22
namespace Go.Proofs.YtmjifhjhialcbaaGreat
set_option maxRecDepth 100000
set_option linter.unusedVariables false
open Go.RowKit
theorem slotRow_yes {e : EntM} (h : entB e = true) : slotRowM e = entNs e ++ [e.idx, e.idx] := by unfold slotRowM; rw [if_pos h]
theorem ofEnt_ns (e : EntM) : ofEnt (entNs e) = e := rfl
theorem slot_back {e : EntM} (h : entB e = true) : rowSlotM (slotRowM e) = (e, true) := by
 rw [slotRow_yes h]
 unfold rowSlotM
 rw [if_pos ((twice_iff _ _).2 ⟨by simp [entNs], by simp [entNs], by simp [entNs]⟩)]
 have : (entNs e ++ [e.idx, e.idx]).take 9 = entNs e := by simp [entNs]
 rw [this]
 unfold rowEntM
 rw [if_pos (by simp [entNs]), ofEnt_ns, if_pos h]
theorem rowSlot_len {r : List Int} (h : r.length ≠ 11) : rowSlotM r = (ent0, false) := by
 unfold rowSlotM
 rw [if_neg (by rw [twice_no (fun h9 => h (by have := h9.1; omega))]; decide)]
theorem rowSlot_is {r : List Int} {e : EntM} (h : rowSlotM r = (e, true)) : r = slotRowM e ∧ entB e = true := by
 unfold rowSlotM at h
 split at h
 next ht =>
  obtain ⟨t1, t2, t3⟩ := (twice_iff _ _).1 ht
  unfold rowEntM at h
  split at h
  next =>
   split at h
   next hb =>
    have he : ofEnt (r.take 9) = e := congrArg Prod.fst h
    subst he
    refine ⟨?_, hb⟩
    rw [slotRow_yes hb]
    match r, t1 with
    | [a0, a1, a2, a3, a4, a5, a6, a7, a8, a9, a10], _ =>
     have e1 : a9 = a0 := t2
     have e2 : a10 = a0 := t3
     subst e1 e2
     rfl
   next => cases congrArg Prod.snd h
  next => cases congrArg Prod.snd h
 next => cases congrArg Prod.snd h
def MadeBk1 (w : World) (b : BookM) (e : Ending) (w' : World) : Prop :=
 ∃ (x0 x1 : Int) (A : Option Addr) (n c : Nat), e = .returned (.agg #[.int .i64 x0, .int .i64 x1, .slice A n c]) ∧ Has w' w.heap.size b.cells [.int .i64 x0, .int .i64 x1, .slice A n c] ∧ Below w.heap.size w w'
def CBookIn (p : Nat) : Prop := ∀ (Aa0 : Option Addr) (na0 ca0 : Nat) (Aa1 : Option Addr) (na1 ca1 : Nat) (Aa2 : Option Addr) (na2 ca2 : Nat) (Aa3 : Option Addr) (na3 ca3 : Nat) (t : TwoM) (x0 x1 x2 : Int) (A : Option Addr) (n cc : Nat) (l : List MarkM) (w : World), Rd w w.heap.size t.cells [.slice Aa0 na0 ca0, .slice Aa1 na1 ca1, .slice Aa2 na2 ca2, .slice Aa3 na3 ca3] → t.sz ≤ 1048576 → Rd w w.heap.size [mrkD l] [.slice A n cc] → mrkSz l ≤ 1048576 → Calls Tryz.prog p #[.agg #[.slice Aa0 na0 ca0, .slice Aa1 na1 ca1, .slice Aa2 na2 ca2, .slice Aa3 na3 ca3], .agg #[.int .i64 x0, .int .i64 x1, .int .i64 x2, .slice A n cc]] w (MadeBk1 w (bookInM t ⟨x0, x1, x2, l⟩))
theorem CBookIn.at_ {p : Nat} (H : CBookIn p) (Aa0 : Option Addr) (na0 ca0 : Nat) (Aa1 : Option Addr) (na1 ca1 : Nat) (Aa2 : Option Addr) (na2 ca2 : Nat) (Aa3 : Option Addr) (na3 ca3 : Nat) (t : TwoM) (x0 x1 x2 : Int) (A : Option Addr) (n cc : Nat) (d0 : HeadM) (w : World) (ht : Rd w w.heap.size t.cells [.slice Aa0 na0 ca0, .slice Aa1 na1 ca1, .slice Aa2 na2 ca2, .slice Aa3 na3 ca3]) (hst : t.sz ≤ 1048576) (h : Rd w w.heap.size d0.cells [.int .i64 x0, .int .i64 x1, .int .i64 x2, .slice A n cc]) (hs : d0.sz ≤ 1048576) : Calls Tryz.prog p #[.agg #[.slice Aa0 na0 ca0, .slice Aa1 na1 ca1, .slice Aa2 na2 ca2, .slice Aa3 na3 ca3], .agg #[.int .i64 x0, .int .i64 x1, .int .i64 x2, .slice A n cc]] w (MadeBk1 w (bookInM t d0)) := by
 obtain ⟨rfl, rfl, rfl, hr⟩ := h.headL
 exact H Aa0 na0 ca0 Aa1 na1 ca1 Aa2 na2 ca2 Aa3 na3 ca3 t d0.num d0.base d0.tm A n cc d0.seen w ht hst hr hs
theorem bookInM_szL (t : TwoM) (h : HeadM) (_ht : t.sz ≤ 1048576) (_hh : h.sz ≤ 1048576) : (bookInM t h).sz ≤ 1048577 := Nat.le_trans (bookInM_sz t h) (by decide)
theorem sBookIn_c : CBookIn 31 := fun Aa0 na0 ca0 Aa1 na1 ca1 Aa2 na2 ca2 Aa3 na3 ca3 t x0 x1 x2 A n cc l w h hs h2 hs2 => sBookIn_any Aa0 na0 ca0 Aa1 na1 ca1 Aa2 na2 ca2 Aa3 na3 ca3 t x0 x1 x2 A n cc l w h hs h2 hs2
end Go.Proofs.YtmjifhjhialcbaaGreat

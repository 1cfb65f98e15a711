/- Parts of my texts: HeadC. -/
import Derived.Test.YtljnplalnhiidaaK5
namespace Go.Proofs.Ytljnplalnhiidaa
set_option maxRecDepth 100000
set_option linter.unusedVariables false
open Go.RowKit
def MadeHB (w : World) (r : HeadM × Bool) (e : Ending) (w' : World) : Prop :=
 ∃ (z0 z1 z2 : Int) (A2 : Option Addr) (n2 c2 : Nat), e = .returned (.tuple #[.agg #[.int .i64 z0, .int .i64 z1, .int .i64 z2, .slice A2 n2 c2], .bool r.2]) ∧ Has w' w.heap.size r.1.cells [.int .i64 z0, .int .i64 z1, .int .i64 z2, .slice A2 n2 c2] ∧ Below w.heap.size w w'
def CHeadOk (p : Nat) : Prop := ∀ (x0 x1 x2 : Int) (A : Option Addr) (n cc : Nat) (l : List MarkM) (w : World), Rd w w.heap.size [mrkD l] [.slice A n cc] → mrkSz l ≤ 1048577 → Calls Try.prog p #[.agg #[.int .i64 x0, .int .i64 x1, .int .i64 x2, .slice A n cc]] w (fun e w' => e = .returned (.bool (headOkB ⟨x0, x1, x2, l⟩)) ∧ Below w.heap.size w w')
def CHeadRow (p : Nat) : Prop := ∀ (x0 x1 x2 : Int) (A : Option Addr) (n cc : Nat) (l : List MarkM) (w : World), Rd w w.heap.size [mrkD l] [.slice A n cc] → mrkSz l ≤ 1048577 → Calls Try.prog p #[.agg #[.int .i64 x0, .int .i64 x1, .int .i64 x2, .slice A n cc]] w (fun e w' => ∃ (A2 : Option Addr) (n2 c2 : Nat), e = .returned (.slice A2 n2 c2) ∧ Has w' w.heap.size (rowCells (headRowM ⟨x0, x1, x2, l⟩)) [.slice A2 n2 c2] ∧ Below w.heap.size w w')
def CRowHead (p : Nat) : Prop := ∀ (A : Option Addr) (n cc : Nat) (d : List Int) (w : World), Rd w w.heap.size (rowCells d) [.slice A n cc] → Calls Try.prog p #[.slice A n cc] w (MadeHB w (rowHeadM d))
def CSlotRow (p : Nat) : Prop := ∀ (x0 x1 x2 x3 x4 x5 x6 x7 x8 : Int) (w : World), Calls Try.prog p #[.agg #[.int .i64 x0, .int .i64 x1, .int .i64 x2, .int .i64 x3, .int .i64 x4, .int .i64 x5, .int .i64 x6, .int .i64 x7, .int .i64 x8]] w (fun e w' => ∃ (A2 : Option Addr) (n2 c2 : Nat), e = .returned (.slice A2 n2 c2) ∧ Has w' w.heap.size (rowCells (slotRowM ⟨x0, x1, x2, x3, x4, x5, x6, x7, x8⟩)) [.slice A2 n2 c2] ∧ Below w.heap.size w w')
def CRowSlot (p : Nat) : Prop := ∀ (A : Option Addr) (n cc : Nat) (d : List Int) (w : World), Rd w w.heap.size (rowCells d) [.slice A n cc] → Calls Try.prog p #[.slice A n cc] w (fun e w' => e = .returned (.tuple #[.agg #[.int .i64 (rowSlotM d).1.idx, .int .i64 (rowSlotM d).1.tm, .int .i64 (rowSlotM d).1.cl, .int .i64 (rowSlotM d).1.sq, .int .i64 (rowSlotM d).1.kd, .int .i64 (rowSlotM d).1.oa, .int .i64 (rowSlotM d).1.ob, .int .i64 (rowSlotM d).1.oc, .int .i64 (rowSlotM d).1.od], .bool (rowSlotM d).2]) ∧ Below w.heap.size w w')
def CSlotOf (p : Nat) : Prop := ∀ (x : Int) (w : World), Calls Try.prog p #[.int .i64 x] w (fun e w' => e = .returned (.int .i64 (slotOfM x)) ∧ Below w.heap.size w w')
theorem Rd.headL {w : World} {B : Nat} {t : HeadM} {x0 x1 x2 : Int} {v3 : Value} (h : Rd w B t.cells [.int .i64 x0, .int .i64 x1, .int .i64 x2, v3]) : x0 = t.num ∧ x1 = t.base ∧ x2 = t.tm ∧ Rd w B [mrkD t.seen] [v3] := by
 obtain ⟨_, _, _, e0, e1, e2, rfl, hr⟩ := h.headT
 injection e0 with _ e0
 injection e1 with _ e1
 injection e2 with _ e2
 exact ⟨e0, e1, e2, hr⟩
theorem CHeadOk.at_ {p : Nat} (H : CHeadOk p) (x0 x1 x2 : Int) (A : Option Addr) (n cc : Nat) (d0 : HeadM) (w : World) (h : Rd w w.heap.size d0.cells [.int .i64 x0, .int .i64 x1, .int .i64 x2, .slice A n cc]) (hs : d0.sz ≤ 1048576) : Calls Try.prog p #[.agg #[.int .i64 x0, .int .i64 x1, .int .i64 x2, .slice A n cc]] w (fun e w' => e = .returned (.bool (headOkB d0)) ∧ Below w.heap.size w w') := by
 obtain ⟨rfl, rfl, rfl, hr⟩ := h.headL
 exact H d0.num d0.base d0.tm A n cc d0.seen w hr (Nat.le_trans hs (by decide))
theorem CHeadRow.at_ {p : Nat} (H : CHeadRow p) (x0 x1 x2 : Int) (A : Option Addr) (n cc : Nat) (d0 : HeadM) (w : World) (h : Rd w w.heap.size d0.cells [.int .i64 x0, .int .i64 x1, .int .i64 x2, .slice A n cc]) (hs : d0.sz ≤ 1048576) : Calls Try.prog p #[.agg #[.int .i64 x0, .int .i64 x1, .int .i64 x2, .slice A n cc]] w (fun e w' => ∃ (A2 : Option Addr) (n2 c2 : Nat), e = .returned (.slice A2 n2 c2) ∧ Has w' w.heap.size (rowCells (headRowM d0)) [.slice A2 n2 c2] ∧ Below w.heap.size w w') := by
 obtain ⟨rfl, rfl, rfl, hr⟩ := h.headL
 exact H d0.num d0.base d0.tm A n cc d0.seen w hr (Nat.le_trans hs (by decide))
theorem CRowHead.at_ {p : Nat} (H : CRowHead p) (A : Option Addr) (n cc : Nat) (d : List Int) (w : World) (h : Rd w w.heap.size (rowCells d) [.slice A n cc]) (_hs : d.length ≤ 1048576) : Calls Try.prog p #[.slice A n cc] w (MadeHB w (rowHeadM d)) := H A n cc d w h
theorem CRowSlot.at_ {p : Nat} (H : CRowSlot p) (A : Option Addr) (n cc : Nat) (d : List Int) (w : World) (h : Rd w w.heap.size (rowCells d) [.slice A n cc]) (_hs : d.length ≤ 1048576) : Calls Try.prog p #[.slice A n cc] w (fun e w' => e = .returned (.tuple #[.agg #[.int .i64 (rowSlotM d).1.idx, .int .i64 (rowSlotM d).1.tm, .int .i64 (rowSlotM d).1.cl, .int .i64 (rowSlotM d).1.sq, .int .i64 (rowSlotM d).1.kd, .int .i64 (rowSlotM d).1.oa, .int .i64 (rowSlotM d).1.ob, .int .i64 (rowSlotM d).1.oc, .int .i64 (rowSlotM d).1.od], .bool (rowSlotM d).2]) ∧ Below w.heap.size w w') := H A n cc d w h
theorem headRowM_szL (d : HeadM) (_h : d.sz ≤ 1048576) : (headRowM d).length ≤ 1048577 := Nat.le_trans (headRowM_len d) (by decide)
theorem rowHeadM_szL (d : List Int) (_h : d.length ≤ 1048576) : (rowHeadM d).1.sz ≤ 1048577 := Nat.le_trans (rowHeadM_sz d) (by decide)
theorem slotRowM_szL (e : EntM) : (slotRowM e).length ≤ 1048577 := Nat.le_trans (slotRowM_len e) (by decide)
end Go.Proofs.Ytljnplalnhiidaa

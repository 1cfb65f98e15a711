/-
  Chapter 5: SameNet, of the model and of the program (by program, wip/gen/gennete.py).
-/
import Derived.Test.YtdcdcccdihhhcaaNetM
import Derived.Test.YtdcdcccdihhhcaaCls
import Derived.RegionTactic
import Derived.BigQuiet
namespace Go.Proofs.Ytdcdcccdihhhcaa
set_option maxRecDepth 100000
open Go.RowKit

/-- Element by element equal. -/
def allEq {α : Type} (p : α → α → Bool) : List α → List α → Bool
  | [], [] => true
  | x :: xs, y :: ys => p x y && allEq p xs ys
  | _, _ => false
theorem allEq_len {α : Type} {p : α → α → Bool} : ∀ {l m : List α}, l.length ≠ m.length → allEq p l m = false
  | [], [], h => absurd rfl h
  | [], _ :: _, _ => rfl
  | _ :: _, [], _ => rfl
  | x :: xs, y :: ys, h => by
    unfold allEq
    rw [allEq_len (l := xs) (m := ys) (by simpa using h), Bool.and_false]
theorem allEq_bad {α : Type} {p : α → α → Bool} : ∀ {l m : List α} {j : Nat} (hj : j < l.length) (hj' : j < m.length), p l[j] m[j] = false → allEq p l m = false
  | [], _, j, hj, _, _ => by simp at hj
  | _ :: _, [], j, _, hj', _ => by simp at hj'
  | x :: xs, y :: ys, 0, _, _, h => by
    unfold allEq
    simp only [List.getElem_cons_zero] at h
    rw [h, Bool.false_and]
  | x :: xs, y :: ys, j + 1, hj, hj', h => by
    unfold allEq
    rw [allEq_bad (l := xs) (m := ys) (j := j) (by simpa using hj) (by simpa using hj') h, Bool.and_false]
theorem allEq_end {α : Type} {p : α → α → Bool} : ∀ {l m : List α} (hl : l.length = m.length), (∀ j (hj : j < l.length), p l[j] (m[j]'(hl ▸ hj)) = true) → allEq p l m = true
  | [], [], _, _ => rfl
  | x :: xs, y :: ys, hl, h => by
    unfold allEq
    have h0 := h 0 (by simp)
    simp only [List.getElem_cons_zero] at h0
    rw [h0, Bool.true_and]
    exact allEq_end (by simpa using hl) fun j hj => h (j + 1) (by simpa using hj)
def sameNet (a b : NetM) : Bool := allEq sameMsg a.flight b.flight && allEq linkEq a.cuts b.cuts

set_option maxHeartbeats 6400000 in
theorem sSameMsgs_any (A A' : Option Addr) (n n' cc cc' : Nat) (l m : List MsgM) (B B' : Nat) (w : World) (h : Rd w B [msgD l] [.slice A n cc]) (h' : Rd w B' [msgD m] [.slice A' n' cc']) (hB : B ≤ w.heap.size) (hB' : B' ≤ w.heap.size) (hs : msgSz l ≤ 1048577) (hs' : msgSz m ≤ 1048577) :
    Calls Try.prog 96 #[.slice A n cc, .slice A' n' cc'] w fun e w' => e = .returned (.bool (allEq sameMsg l m)) ∧ Below w.heap.size w w' := by
  obtain ⟨_, _, _, e, hl, _, _, hel⟩ := h.msgs
  injection e with e1 e2 e3
  subst e1 e2 e3
  obtain ⟨_, _, _, e, hl', _, _, hel'⟩ := h'.msgs
  injection e with e1 e2 e3
  subst e1 e2 e3
  have hn : n ≤ 1048577 := by unfold msgSz at hs; omega
  have hn' : n' ≤ 1048577 := by unfold msgSz at hs'; omega
  have HS := Lib.hid hs
  have HS' := Lib.hid hs'
  have HL := Lib.hid hl
  have HL' := Lib.hid hl'
  clear h h' hl hl' hs hs'
  by_cases hnn : n = n'
  case neg =>
    have HD := Lib.hid (show allEq sameMsg l m = false from allEq_len (by have := HL.out; have := HL'.out; omega))
    have hne : ¬ (n : Int) = (n' : Int) := by omega
    clear hel hel'
    go_enter Try.func96, Try.ntmps96
    go_wp2
    go_ret
    exact ⟨ret_bool HD.out.symm, Below.refl _ _⟩
  subst hnn
  go_enter Try.func96, Try.ntmps96
  go_wp2
  go_loopw [5] (fun i wr => ∃ j : Nat, j ≤ n ∧ i = .int .i64 (j : Int) ∧ (∀ q (hq : q < l.length) (hq' : q < m.length), q < j → sameMsg l[q] m[q] = true) ∧ Below w.heap.size w wr) (fun i _ => n - (intOf i).toNat)
  case atStart => exact ⟨0, Nat.zero_le _, rfl, fun q _ _ hq => absurd hq (by omega), Below.refl _ _⟩
  case round =>
    obtain ⟨j, hj, rfl, hall, c⟩ := hrel
    by_cases hlt : j < n
    · obtain ⟨b, off, rfl, hb, hc⟩ := hel (by omega)
      have hjl : j < l.length := by have := HL.out; omega
      obtain ⟨A1, m1, d1, hc0, hc1, hc2, hrow, _⟩ := hc j hjl
      have cs0 := (c.cell (p := ⟨b, off + j * 3, none⟩) (show b < _ by omega)).trans hc0
      have cs1 := (c.cell (p := ⟨b, off + j * 3 + 1, none⟩) (show b < _ by omega)).trans hc1
      have cs2 := (c.cell (p := ⟨b, off + j * 3 + 2, none⟩) (show b < _ by omega)).trans hc2
      have hm1 : m1 ≤ 1048577 := by
        have h1 := pre_at (g := msgRowSz) hjl
        have h2 := HS.out
        have h3 := hrow.1
        have h4 : msgRowSz l[j] = l[j].row.length := rfl
        unfold msgSz at h2
        omega
      obtain ⟨x0, hx0⟩ : ∃ q, q = l[j].frm := ⟨_, rfl⟩
      obtain ⟨x1, hx1⟩ : ∃ q, q = l[j].dest := ⟨_, rfl⟩
      obtain ⟨xr, hxr⟩ : ∃ q, q = l[j].row := ⟨_, rfl⟩
      rw [← hx0] at cs0
      rw [← hx1] at cs1
      rw [← hxr] at hrow
      have hmk : l[j] = ⟨x0, x1, xr⟩ := by rw [hx0, hx1, hxr]
      obtain ⟨b', off', rfl, hb', hc'⟩ := hel' (by omega)
      have hjl' : j < m.length := by have := HL'.out; omega
      obtain ⟨A1', m1', d1', hc0', hc1', hc2', hrow', _⟩ := hc' j hjl'
      have cs0' := (c.cell (p := ⟨b', off' + j * 3, none⟩) (show b' < _ by omega)).trans hc0'
      have cs1' := (c.cell (p := ⟨b', off' + j * 3 + 1, none⟩) (show b' < _ by omega)).trans hc1'
      have cs2' := (c.cell (p := ⟨b', off' + j * 3 + 2, none⟩) (show b' < _ by omega)).trans hc2'
      have hm1' : m1' ≤ 1048577 := by
        have h1 := pre_at (g := msgRowSz) hjl'
        have h2 := HS'.out
        have h3 := hrow'.1
        have h4 : msgRowSz m[j] = m[j].row.length := rfl
        unfold msgSz at h2
        omega
      obtain ⟨x0', hx0'⟩ : ∃ q, q = m[j].frm := ⟨_, rfl⟩
      obtain ⟨x1', hx1'⟩ : ∃ q, q = m[j].dest := ⟨_, rfl⟩
      obtain ⟨xr', hxr'⟩ : ∃ q, q = m[j].row := ⟨_, rfl⟩
      rw [← hx0'] at cs0'
      rw [← hx1'] at cs1'
      rw [← hxr'] at hrow'
      have hmk' : m[j] = ⟨x0', x1', xr'⟩ := by rw [hx0', hx1', hxr']
      have HM := Lib.hid hmk
      have HM' := Lib.hid hmk'
      have hr := hrow.below (c.mono hB)
      have hr' := hrow'.below (c.mono hB')
      have HA := Lib.hid hall
      have i0 : (0 : Int) ≤ (j : Int) := by omega
      have i1 : (j : Int) < (n : Int) := by omega
      have hBr := Nat.le_trans hB c.size
      have hBr' := Nat.le_trans hB' c.size
      clear hx0 hx1 hxr hmk hc hc0 hc1 hc2 hrow hel hx0' hx1' hxr' hmk' hc' hc0' hc1' hc2' hrow' hel' hall
      go_wp2_with fail
      refine wp_region_cls (fun v => v.cell? ⟨b, off + j * 3, none⟩ = some (.int .i64 x0) ∧ v.cell? ⟨b, off + j * 3 + 1, none⟩ = some (.int .i64 x1) ∧ v.cell? ⟨b, off + j * 3 + 2, none⟩ = some (.slice A1 m1 d1) ∧ v.cell? ⟨b', off' + j * 3, none⟩ = some (.int .i64 x0') ∧ v.cell? ⟨b', off' + j * 3 + 1, none⟩ = some (.int .i64 x1') ∧ v.cell? ⟨b', off' + j * 3 + 2, none⟩ = some (.slice A1' m1' d1') ∧ IRow v B A1 m1 xr ∧ IRow v B' A1' m1' xr' ∧ B ≤ v.heap.size ∧ B' ≤ v.heap.size) (by kernel_rfl) (by kernel_rfl) (fun v hv => ⟨(hv.cell (p := ⟨b, off + j * 3, none⟩) (lt_of_cell cs0)).trans cs0, (hv.cell (p := ⟨b, off + j * 3 + 1, none⟩) (lt_of_cell cs1)).trans cs1, (hv.cell (p := ⟨b, off + j * 3 + 2, none⟩) (lt_of_cell cs2)).trans cs2, (hv.cell (p := ⟨b', off' + j * 3, none⟩) (lt_of_cell cs0')).trans cs0', (hv.cell (p := ⟨b', off' + j * 3 + 1, none⟩) (lt_of_cell cs1')).trans cs1', (hv.cell (p := ⟨b', off' + j * 3 + 2, none⟩) (lt_of_cell cs2')).trans cs2', hr.below (hv.mono hBr), hr'.below (hv.mono hBr'), Nat.le_trans hBr hv.size, Nat.le_trans hBr' hv.size⟩) ?_
      intro C HF HC
      repeat
        (refine wpQuiet_step (fun K hK => ?_)
         go_simp
         first
           | (refine hK _ ?_; clear hK K)
           | (apply Exists.intro
              refine ⟨fun v hv => ?_, hK _ ?_⟩
              · obtain ⟨a0, a1, a2, a3, a4, a5, a6, a7, a8, a9⟩ := HF v hv
                first
                  | (go_at_call 107; exact Calls.cls HC hv (sSameMsg_any x0 x1 x0' x1' A1 A1' m1 d1 m1' d1' B B' xr xr' v a6 a7 a8 a9 hm1 hm1') rfl)
                  | exact rfl
                  | (go_simp; exact rfl)
                  | (go_simp; exact ⟨rfl, hv⟩)
              clear hK K))
      refine wpQuiet_nil ?_
      intro w9 b9
      have CC := Lib.hid (c.trans (b9.mono c.size))
      clear c b9 hr hr' cs0 cs1 cs2 cs0' cs1' cs2'
      cases hok : sameMsg ⟨x0, x1, xr⟩ ⟨x0', x1', xr'⟩
      case false =>
        have HD := Lib.hid (show allEq sameMsg l m = false from allEq_bad hjl hjl' (by rw [HM.out, HM'.out]; exact hok))
        clear hok
        go_wp2
        go_ret
        exact ⟨ret_bool HD.out.symm, CC.out⟩
      case true =>
        have HN := Lib.hid (show ∀ q (hq : q < l.length) (hq' : q < m.length), q < j + 1 → sameMsg l[q] m[q] = true from fun q hq hq' hlt2 => by
          by_cases e : q = j
          · subst e
            rw [HM.out, HM'.out]
            exact hok
          · exact HA.out q hq hq' (by omega))
        clear hok
        go_wp2
        go_roundw
        case rel => exact ⟨j + 1, by omega, by go_num, HN.out, CC.out⟩
        case measure => simp [intOf]; omega
    · have HD := Lib.hid (show allEq sameMsg l m = true from allEq_end (by have := HL.out; have := HL'.out; omega) (fun q hq => hall q hq (by have := HL.out; have := HL'.out; omega) (by have := HL.out; omega)))
      have CC := Lib.hid c
      clear hel hel' hall c
      go_wp2
      go_ret
      exact ⟨ret_bool HD.out.symm, CC.out⟩

set_option maxHeartbeats 6400000 in
theorem sSameNet_any (v0 v1 u0 u1 : Value) (t s : NetM) (B B' : Nat) (w : World) (h : Rd w B t.cells [v0, v1]) (h' : Rd w B' s.cells [u0, u1]) (hB : B ≤ w.heap.size) (hB' : B' ≤ w.heap.size) (hs : t.sz ≤ 1048577) (hs' : s.sz ≤ 1048577) :
    Calls Try.prog 59 #[.agg #[v0, v1], .agg #[u0, u1]] w fun e w' => e = .returned (.bool (sameNet t s)) ∧ Below w.heap.size w w' := by
  obtain ⟨A0, n0, c0, A1, n1, c1, rfl, rfl, hr0, hr1⟩ := h.netT
  obtain ⟨E0, m0, g0, E1, m1_, g1, rfl, rfl, kr0, kr1⟩ := h'.netT
  have hz0 : msgSz t.flight ≤ 1048577 := by unfold NetM.sz at hs; omega
  have hz1 : linkSz t.cuts ≤ 1048577 := by unfold NetM.sz at hs; omega
  have kz0 : msgSz s.flight ≤ 1048577 := by unfold NetM.sz at hs'; omega
  have kz1 : linkSz s.cuts ≤ 1048577 := by unfold NetM.sz at hs'; omega
  obtain ⟨_, _, _, e, hl, _, _, hel⟩ := hr1.links
  injection e with e1 e2 e3
  subst e1 e2 e3
  obtain ⟨_, _, _, e, hl', _, _, hel'⟩ := kr1.links
  injection e with e1 e2 e3
  subst e1 e2 e3
  have hn : n1 ≤ 1048577 := by unfold linkSz at hz1; omega
  have hn' : m1_ ≤ 1048577 := by unfold linkSz at kz1; omega
  have HL := Lib.hid hl
  have HL' := Lib.hid hl'
  have S := Sep.nil w w.heap.size
  have c := Below.refl w.heap.size w
  replace S := S.boxAt c.size (w.heap.size) rfl #[.slice A0 n0 c0, .slice A1 n1 c1] 30
  replace c := c.alloc c.size (.cells #[.slice A0 n0 c0, .slice A1 n1 c1] 30)
  replace S := S.boxAt c.size (w.heap.size + 1) (by simp) #[.slice E0 m0 g0, .slice E1 m1_ g1] 30
  replace c := c.alloc c.size (.cells #[.slice E0 m0 g0, .slice E1 m1_ g1] 30)
  go_enter Try.func59, Try.ntmps59
  go_wp2_with fail
  generalize (w.alloc (.cells #[.slice A0 n0 c0, .slice A1 n1 c1] 30)).alloc (.cells #[.slice E0 m0 g0, .slice E1 m1_ g1] 30) = w1 at *
  refine (sSameMsgs_any _ _ _ _ _ _ t.flight s.flight B B' _ (hr0.keep (c.mono hB)) (kr0.keep (c.mono hB')) (Nat.le_trans hB c.size) (Nat.le_trans hB' c.size) hz0 kz0).mono ?_
  rintro e w2 ⟨rfl, b⟩
  replace c := c.trans (b.mono c.size)
  replace S := S.keep b
  clear b
  cases hok : allEq sameMsg t.flight s.flight
  case false =>
    have HD := Lib.hid (show sameNet t s = false by unfold sameNet; rw [hok, Bool.false_and])
    have C := Lib.hid c
    clear S c h h' hr0 hr1 kr0 kr1 hok hel hel'
    go_wp2
    go_ret
    exact ⟨ret_bool HD.out.symm, C.out⟩
  have HF := Lib.hid hok
  clear hok
  have f0 : w2.cell? ⟨w.heap.size, 0, none⟩ = some (.slice A0 n0 c0) := (S.at_ 1 rfl).cell 0
  have f1 : w2.cell? ⟨w.heap.size, 1, none⟩ = some (.slice A1 n1 c1) := (S.at_ 1 rfl).cell 1
  have f2 : w2.cell? ⟨w.heap.size + 1, 0, none⟩ = some (.slice E0 m0 g0) := (S.at_ 0 rfl).cell 0
  have f3 : w2.cell? ⟨w.heap.size + 1, 1, none⟩ = some (.slice E1 m1_ g1) := (S.at_ 0 rfl).cell 1
  by_cases hnn : n1 = m1_
  case neg =>
    have HD := Lib.hid (show sameNet t s = false by unfold sameNet; rw [allEq_len (l := t.cuts) (by have := HL.out; have := HL'.out; omega), Bool.and_false])
    have hne : ¬ (n1 : Int) = (m1_ : Int) := by omega
    have C := Lib.hid c
    clear S c h h' hr0 hr1 kr0 kr1 hel hel'
    go_wp2
    go_ret
    exact ⟨ret_bool HD.out.symm, C.out⟩
  subst hnn
  have SS := Lib.hid S
  have CC := Lib.hid c
  clear S c h h' hr0 hr1 kr0 kr1
  go_wp2
  clear f0 f1 f2 f3
  go_loopw [5] (fun i wr => ∃ j : Nat, j ≤ n1 ∧ i = .int .i64 (j : Int) ∧ (∀ q (hq : q < t.cuts.length) (hq' : q < s.cuts.length), q < j → linkEq t.cuts[q] s.cuts[q] = true) ∧ Sep wr w.heap.size [.blk (w.heap.size + 1) #[.slice E0 m0 g0, .slice E1 n1 g1] 30, .blk w.heap.size #[.slice A0 n0 c0, .slice A1 n1 c1] 30] ∧ Below w.heap.size w wr) (fun i _ => n1 - (intOf i).toNat)
  case atStart => exact ⟨0, Nat.zero_le _, rfl, fun q _ _ hq => absurd hq (by omega), SS.out, CC.out⟩
  case round =>
    obtain ⟨j, hj, rfl, hall, S, c⟩ := hrel
    clear SS CC
    have k0 : wr.cell? ⟨w.heap.size, 0, none⟩ = some (.slice A0 n0 c0) := (S.at_ 1 rfl).cell 0
    have k1 : wr.cell? ⟨w.heap.size, 1, none⟩ = some (.slice A1 n1 c1) := (S.at_ 1 rfl).cell 1
    have k2 : wr.cell? ⟨w.heap.size + 1, 0, none⟩ = some (.slice E0 m0 g0) := (S.at_ 0 rfl).cell 0
    have k3 : wr.cell? ⟨w.heap.size + 1, 1, none⟩ = some (.slice E1 n1 g1) := (S.at_ 0 rfl).cell 1
    by_cases hlt : j < n1
    · obtain ⟨b, off, rfl, hb, hc⟩ := hel (by omega)
      have hjl : j < t.cuts.length := by have := HL.out; omega
      obtain ⟨hc0, hc1⟩ := hc j hjl
      have cs0 := (c.cell (p := ⟨b, off + j * 2, none⟩) (show b < _ by omega)).trans hc0
      have cs1 := (c.cell (p := ⟨b, off + j * 2 + 1, none⟩) (show b < _ by omega)).trans hc1
      obtain ⟨x0, hx0⟩ : ∃ q, q = t.cuts[j].a := ⟨_, rfl⟩
      obtain ⟨x1, hx1⟩ : ∃ q, q = t.cuts[j].b := ⟨_, rfl⟩
      rw [← hx0] at cs0
      rw [← hx1] at cs1
      have hmk : t.cuts[j] = ⟨x0, x1⟩ := by rw [hx0, hx1]
      obtain ⟨b', off', rfl, hb', hc'⟩ := hel' (by omega)
      have hjl' : j < s.cuts.length := by have := HL'.out; omega
      obtain ⟨hc0', hc1'⟩ := hc' j hjl'
      have cs0' := (c.cell (p := ⟨b', off' + j * 2, none⟩) (show b' < _ by omega)).trans hc0'
      have cs1' := (c.cell (p := ⟨b', off' + j * 2 + 1, none⟩) (show b' < _ by omega)).trans hc1'
      obtain ⟨x0', hx0'⟩ : ∃ q, q = s.cuts[j].a := ⟨_, rfl⟩
      obtain ⟨x1', hx1'⟩ : ∃ q, q = s.cuts[j].b := ⟨_, rfl⟩
      rw [← hx0'] at cs0'
      rw [← hx1'] at cs1'
      have hmk' : s.cuts[j] = ⟨x0', x1'⟩ := by rw [hx0', hx1']
      have HM := Lib.hid hmk
      have HM' := Lib.hid hmk'
      have HA := Lib.hid hall
      have i0 : (0 : Int) ≤ (j : Int) := by omega
      have i1 : (j : Int) < (n1 : Int) := by omega
      have SH := Lib.hid S
      have C := Lib.hid c
      clear hx0 hx1 hmk hc hc0 hc1 hel hx0' hx1' hmk' hc' hc0' hc1' hel' hall S c
      have HK := Lib.hid (show ¬ (x0 = x0' ∧ x1 = x1') → linkEq ⟨x0, x1⟩ ⟨x0', x1'⟩ = false from fun h => by
        rw [Bool.eq_false_iff]
        intro hh
        have := (linkEq_iff _ _).1 hh
        injection this with h1 h2
        exact h ⟨h1, h2⟩)
      by_cases e0 : x0 = x0'
      case' pos =>
        subst e0
        by_cases e1 : x1 = x1'
      case pos =>
        subst e1
        have HN := Lib.hid (show ∀ q (hq : q < t.cuts.length) (hq' : q < s.cuts.length), q < j + 1 → linkEq t.cuts[q] s.cuts[q] = true from fun q hq hq' hlt2 => by
          by_cases e : q = j
          · subst e
            rw [HM.out, HM'.out]
            exact linkEq_refl _
          · exact HA.out q hq hq' (by omega))
        go_wp2
        go_quiet (fail)
        go_wp2
        go_roundw
        case rel => exact ⟨j + 1, by omega, by go_num, HN.out, SH.out.keep (below_drewN (Below.refl _ _) _), below_drewN C.out _⟩
        case measure => simp [intOf]; omega
      all_goals
        have HD := Lib.hid (show sameNet t s = false by unfold sameNet; rw [allEq_bad hjl hjl' (by rw [HM.out, HM'.out]; exact HK.out (fun h => by first | exact e0 h.1 | exact e1 h.2)), Bool.and_false])
        go_wp2
        go_quiet (fail)
        go_wp2
        go_ret
        exact ⟨ret_bool HD.out.symm, below_drewN C.out _⟩
    · have HD := Lib.hid (show sameNet t s = true by
        unfold sameNet
        rw [HF.out, Bool.true_and]
        exact allEq_end (by have := HL.out; have := HL'.out; omega) (fun q hq => hall q hq (by have := HL.out; have := HL'.out; omega) (by have := HL.out; omega)))
      have CC := Lib.hid c
      clear hel hel' hall c S
      go_wp2
      go_ret
      exact ⟨ret_bool HD.out.symm, CC.out⟩

set_option maxHeartbeats 12800000 in
theorem iSameNet_any (v0 v1 u0 u1 : Value) (t s : NetM) (B B' : Nat) (w : World) (h : Rd w B t.cells [v0, v1]) (h' : Rd w B' s.cells [u0, u1]) (hB : B ≤ w.heap.size) (hB' : B' ≤ w.heap.size) (hs : t.sz ≤ 1048577) (hs' : s.sz ≤ 1048577) :
    Calls Try.prog 34 #[.agg #[v0, v1], .agg #[u0, u1]] w fun e w' => e = .returned (.bool (sameNet t s)) ∧ Below w.heap.size w w' := by
  obtain ⟨A0, n0, c0, A1, n1, c1, rfl, rfl, hr0, hr1⟩ := h.netT
  obtain ⟨E0, m0, g0, E1, m1_, g1, rfl, rfl, kr0, kr1⟩ := h'.netT
  have hz0 : msgSz t.flight ≤ 1048577 := by unfold NetM.sz at hs; omega
  have hz1 : linkSz t.cuts ≤ 1048577 := by unfold NetM.sz at hs; omega
  have kz0 : msgSz s.flight ≤ 1048577 := by unfold NetM.sz at hs'; omega
  have kz1 : linkSz s.cuts ≤ 1048577 := by unfold NetM.sz at hs'; omega
  obtain ⟨_, _, _, e, hl0, _, _, hel0⟩ := hr0.msgs
  injection e with e1 e2 e3
  subst e1 e2 e3
  obtain ⟨_, _, _, e, hl0', _, _, hel0'⟩ := kr0.msgs
  injection e with e1 e2 e3
  subst e1 e2 e3
  have hn0 : n0 ≤ 1048577 := by unfold msgSz at hz0; omega
  have hn0' : m0 ≤ 1048577 := by unfold msgSz at kz0; omega
  have HS := Lib.hid hz0
  have HS' := Lib.hid kz0
  have HL0 := Lib.hid hl0
  have HL0' := Lib.hid hl0'
  obtain ⟨_, _, _, e, hl, _, _, hel⟩ := hr1.links
  injection e with e1 e2 e3
  subst e1 e2 e3
  obtain ⟨_, _, _, e, hl', _, _, hel'⟩ := kr1.links
  injection e with e1 e2 e3
  subst e1 e2 e3
  have hn : n1 ≤ 1048577 := by unfold linkSz at hz1; omega
  have hn' : m1_ ≤ 1048577 := by unfold linkSz at kz1; omega
  have HL := Lib.hid hl
  have HL' := Lib.hid hl'
  have S := Sep.nil w w.heap.size
  have c := Below.refl w.heap.size w
  replace S := S.boxAt c.size (w.heap.size) rfl #[.slice A0 n0 c0, .slice A1 n1 c1] 30
  replace c := c.alloc c.size (.cells #[.slice A0 n0 c0, .slice A1 n1 c1] 30)
  replace S := S.boxAt c.size (w.heap.size + 1) (by simp) #[.slice E0 m0 g0, .slice E1 m1_ g1] 30
  replace c := c.alloc c.size (.cells #[.slice E0 m0 g0, .slice E1 m1_ g1] 30)
  have C := Lib.hid c
  have SS := Lib.hid S
  have CC := Lib.hid c
  by_cases hn00 : n0 = m0
  case neg =>
    have HD := Lib.hid (show sameNet t s = false by unfold sameNet; rw [allEq_len (l := t.flight) (by have := HL0.out; have := HL0'.out; omega), Bool.false_and])
    have hne : ¬ (n0 : Int) = (m0 : Int) := by omega
    clear h h' hr0 hr1 kr0 kr1 hel hel' hel0 hel0' S c
    go_enter Try.func34, Try.ntmps34
    go_wp2
    go_ret
    exact ⟨ret_bool HD.out.symm, C.out⟩
  subst hn00
  by_cases hnn : n1 = m1_
  case neg =>
    have HD := Lib.hid (show sameNet t s = false by unfold sameNet; rw [allEq_len (l := t.cuts) (by have := HL.out; have := HL'.out; omega), Bool.and_false])
    have hne : ¬ (n1 : Int) = (m1_ : Int) := by omega
    clear h h' hr0 hr1 kr0 kr1 hel hel' hel0 hel0' S c
    go_enter Try.func34, Try.ntmps34
    go_wp2
    go_ret
    exact ⟨ret_bool HD.out.symm, C.out⟩
  subst hnn
  clear h h' hr0 hr1 kr0 kr1 S c C
  go_enter Try.func34, Try.ntmps34
  go_wp2
  go_loopw [28] (fun i wr => ∃ j : Nat, j ≤ n0 ∧ i = .int .i64 (j : Int) ∧ (∀ q (hq : q < t.flight.length) (hq' : q < s.flight.length), q < j → sameMsg t.flight[q] s.flight[q] = true) ∧ Sep wr w.heap.size [.blk (w.heap.size + 1) #[.slice E0 n0 g0, .slice E1 n1 g1] 30, .blk w.heap.size #[.slice A0 n0 c0, .slice A1 n1 c1] 30] ∧ Below w.heap.size w wr) (fun i _ => n0 - (intOf i).toNat)
  case atStart => exact ⟨0, Nat.zero_le _, rfl, fun q _ _ hq => absurd hq (by omega), SS.out, CC.out⟩
  case round =>
    obtain ⟨j, hj, rfl, hall, S, c⟩ := hrel
    clear SS CC
    by_cases hlt : j < n0
    · obtain ⟨b, off, rfl, hb, hc⟩ := hel0 (by omega)
      have hjl : j < t.flight.length := by have := HL0.out; omega
      obtain ⟨F1, p1, d1, hc0, hc1, hc2, hrow, _⟩ := hc j hjl
      have cs0 := (c.cell (p := ⟨b, off + j * 3, none⟩) (show b < _ by omega)).trans hc0
      have cs1 := (c.cell (p := ⟨b, off + j * 3 + 1, none⟩) (show b < _ by omega)).trans hc1
      have cs2 := (c.cell (p := ⟨b, off + j * 3 + 2, none⟩) (show b < _ by omega)).trans hc2
      have hp1 : p1 ≤ 1048577 := by
        have h1 := pre_at (g := msgRowSz) hjl
        have h2 := HS.out
        have h3 := hrow.1
        have h4 : msgRowSz t.flight[j] = t.flight[j].row.length := rfl
        unfold msgSz at h2
        omega
      obtain ⟨x0, hx0⟩ : ∃ q, q = t.flight[j].frm := ⟨_, rfl⟩
      obtain ⟨x1, hx1⟩ : ∃ q, q = t.flight[j].dest := ⟨_, rfl⟩
      obtain ⟨xr, hxr⟩ : ∃ q, q = t.flight[j].row := ⟨_, rfl⟩
      rw [← hx0] at cs0
      rw [← hx1] at cs1
      rw [← hxr] at hrow
      have hmk : t.flight[j] = ⟨x0, x1, xr⟩ := by rw [hx0, hx1, hxr]
      obtain ⟨b', off', rfl, hb', hc'⟩ := hel0' (by omega)
      have hjl' : j < s.flight.length := by have := HL0'.out; omega
      obtain ⟨F1', p1', d1', hc0', hc1', hc2', hrow', _⟩ := hc' j hjl'
      have cs0' := (c.cell (p := ⟨b', off' + j * 3, none⟩) (show b' < _ by omega)).trans hc0'
      have cs1' := (c.cell (p := ⟨b', off' + j * 3 + 1, none⟩) (show b' < _ by omega)).trans hc1'
      have cs2' := (c.cell (p := ⟨b', off' + j * 3 + 2, none⟩) (show b' < _ by omega)).trans hc2'
      have hp1' : p1' ≤ 1048577 := by
        have h1 := pre_at (g := msgRowSz) hjl'
        have h2 := HS'.out
        have h3 := hrow'.1
        have h4 : msgRowSz s.flight[j] = s.flight[j].row.length := rfl
        unfold msgSz at h2
        omega
      obtain ⟨x0', hx0'⟩ : ∃ q, q = s.flight[j].frm := ⟨_, rfl⟩
      obtain ⟨x1', hx1'⟩ : ∃ q, q = s.flight[j].dest := ⟨_, rfl⟩
      obtain ⟨xr', hxr'⟩ : ∃ q, q = s.flight[j].row := ⟨_, rfl⟩
      rw [← hx0'] at cs0'
      rw [← hx1'] at cs1'
      rw [← hxr'] at hrow'
      have hmk' : s.flight[j] = ⟨x0', x1', xr'⟩ := by rw [hx0', hx1', hxr']
      have HM := Lib.hid hmk
      have HM' := Lib.hid hmk'
      have hr := hrow.below (c.mono hB)
      have hr' := hrow'.below (c.mono hB')
      have HA := Lib.hid hall
      have i0 : (0 : Int) ≤ (j : Int) := by omega
      have i1 : (j : Int) < (n0 : Int) := by omega
      have c2 := c.alloc c.size (.cells #[.int .i64 x0, .int .i64 x1, .slice F1 p1 d1] 40)
      have S2 := S.box c.size #[.int .i64 x0, .int .i64 x1, .slice F1 p1 d1] 40
      have bb : Below wr.heap.size wr (wr.alloc (.cells #[.int .i64 x0, .int .i64 x1, .slice F1 p1 d1] 40)) := (Below.refl _ _).alloc (Nat.le_refl _) _
      have hbw' : b' < wr.heap.size := by have := c.size; omega
      have hr2 := hr.below (bb.mono (Nat.le_trans hB c.size))
      have hr2' := hr'.below (bb.mono (Nat.le_trans hB' c.size))
      have cu0 := (bb.cell (p := ⟨b', off' + j * 3, none⟩) hbw').trans cs0'
      have cu1 := (bb.cell (p := ⟨b', off' + j * 3 + 1, none⟩) hbw').trans cs1'
      have cu2 := (bb.cell (p := ⟨b', off' + j * 3 + 2, none⟩) hbw').trans cs2'
      have hBr := Nat.le_trans hB c2.size
      have hBr' := Nat.le_trans hB' c2.size
      clear hx0 hx1 hxr hmk hc hc0 hc1 hc2 hrow hel0 hx0' hx1' hxr' hmk' hc' hc0' hc1' hc2' hrow' hel0' hall S c bb hr hr'
      go_wp2_with fail
      generalize wr.alloc (.cells #[.int .i64 x0, .int .i64 x1, .slice F1 p1 d1] 40) = w1 at *
      have d0 : w1.cell? ⟨wr.heap.size, 0, none⟩ = some (.int .i64 x0) := (S2.at_ 0 rfl).cell 0
      have d1_ : w1.cell? ⟨wr.heap.size, 1, none⟩ = some (.int .i64 x1) := (S2.at_ 0 rfl).cell 1
      have d2 : w1.cell? ⟨wr.heap.size, 2, none⟩ = some (.slice F1 p1 d1) := (S2.at_ 0 rfl).cell 2
      have k2 : w1.cell? ⟨w.heap.size + 1, 0, none⟩ = some (.slice (some ⟨b', off', none⟩) n0 g0) := (S2.at_ 1 rfl).cell 0
      refine wp_region_cls (fun v => v.cell? ⟨wr.heap.size, 0, none⟩ = some (.int .i64 x0) ∧ v.cell? ⟨wr.heap.size, 1, none⟩ = some (.int .i64 x1) ∧ v.cell? ⟨wr.heap.size, 2, none⟩ = some (.slice F1 p1 d1) ∧ v.cell? ⟨w.heap.size + 1, 0, none⟩ = some (.slice (some ⟨b', off', none⟩) n0 g0) ∧ v.cell? ⟨b', off' + j * 3, none⟩ = some (.int .i64 x0') ∧ v.cell? ⟨b', off' + j * 3 + 1, none⟩ = some (.int .i64 x1') ∧ v.cell? ⟨b', off' + j * 3 + 2, none⟩ = some (.slice F1' p1' d1') ∧ IRow v B F1 p1 xr ∧ IRow v B' F1' p1' xr' ∧ B ≤ v.heap.size ∧ B' ≤ v.heap.size) (by kernel_rfl) (by kernel_rfl) (fun v hv => ⟨(hv.cell (p := ⟨wr.heap.size, 0, none⟩) (lt_of_cell d0)).trans d0, (hv.cell (p := ⟨wr.heap.size, 1, none⟩) (lt_of_cell d1_)).trans d1_, (hv.cell (p := ⟨wr.heap.size, 2, none⟩) (lt_of_cell d2)).trans d2, (hv.cell (p := ⟨w.heap.size + 1, 0, none⟩) (lt_of_cell k2)).trans k2, (hv.cell (p := ⟨b', off' + j * 3, none⟩) (lt_of_cell cu0)).trans cu0, (hv.cell (p := ⟨b', off' + j * 3 + 1, none⟩) (lt_of_cell cu1)).trans cu1, (hv.cell (p := ⟨b', off' + j * 3 + 2, none⟩) (lt_of_cell cu2)).trans cu2, hr2.below (hv.mono hBr), hr2'.below (hv.mono hBr'), Nat.le_trans hBr hv.size, Nat.le_trans hBr' hv.size⟩) ?_
      intro C HF HC
      repeat
        (refine wpQuiet_step (fun K hK => ?_)
         go_simp
         first
           | (refine hK _ ?_; clear hK K)
           | (apply Exists.intro
              refine ⟨fun v hv => ?_, hK _ ?_⟩
              · obtain ⟨a0, a1, a2, a3, a4, a5, a6, a7, a8, a9, a10⟩ := HF v hv
                first
                  | (go_at_call 72; exact Calls.cls HC hv (iSameMsg_any x0 x1 x0' x1' F1 F1' p1 d1 p1' d1' B B' xr xr' v a7 a8 a9 a10 hp1 hp1') rfl)
                  | exact rfl
                  | (go_simp; exact rfl)
                  | (go_simp; exact ⟨rfl, hv⟩)
              clear hK K))
      refine wpQuiet_nil ?_
      intro w9 b9
      have CC := Lib.hid (c2.trans (b9.mono c2.size))
      have SS := Lib.hid (S2.keep b9)
      clear c2 S2 b9 hr2 hr2' cs0 cs1 cs2 cs0' cs1' cs2' cu0 cu1 cu2 d0 d1_ d2 k2
      cases hok : sameMsg ⟨x0, x1, xr⟩ ⟨x0', x1', xr'⟩
      case false =>
        have HD := Lib.hid (show sameNet t s = false by unfold sameNet; rw [allEq_bad hjl hjl' (by rw [HM.out, HM'.out]; exact hok), Bool.false_and])
        clear hok
        go_wp2
        go_ret
        exact ⟨ret_bool HD.out.symm, CC.out⟩
      case true =>
        have HN := Lib.hid (show ∀ q (hq : q < t.flight.length) (hq' : q < s.flight.length), q < j + 1 → sameMsg t.flight[q] s.flight[q] = true from fun q hq hq' hlt2 => by
          by_cases e : q = j
          · subst e
            rw [HM.out, HM'.out]
            exact hok
          · exact HA.out q hq hq' (by omega))
        clear hok
        go_wp2
        go_roundw
        case rel => exact ⟨j + 1, by omega, by go_num, HN.out, SS.out.tail, CC.out⟩
        case measure => simp [intOf]; omega
    · have HF := Lib.hid (show allEq sameMsg t.flight s.flight = true from allEq_end (by have := HL0.out; have := HL0'.out; omega) (fun q hq => hall q hq (by have := HL0.out; have := HL0'.out; omega) (by have := HL0.out; omega)))
      have k0 : wr.cell? ⟨w.heap.size, 0, none⟩ = some (.slice A0 n0 c0) := (S.at_ 1 rfl).cell 0
      have k1 : wr.cell? ⟨w.heap.size, 1, none⟩ = some (.slice A1 n1 c1) := (S.at_ 1 rfl).cell 1
      have SS := Lib.hid S
      have CC := Lib.hid c
      clear hall hel0 hel0' S c
      go_wp2
      clear k0 k1
      go_loopw [45] (fun i wr => ∃ j : Nat, j ≤ n1 ∧ i = .int .i64 (j : Int) ∧ (∀ q (hq : q < t.cuts.length) (hq' : q < s.cuts.length), q < j → linkEq t.cuts[q] s.cuts[q] = true) ∧ Sep wr w.heap.size [.blk (w.heap.size + 1) #[.slice E0 n0 g0, .slice E1 n1 g1] 30, .blk w.heap.size #[.slice A0 n0 c0, .slice A1 n1 c1] 30] ∧ Below w.heap.size w wr) (fun i _ => n1 - (intOf i).toNat)
      case atStart => exact ⟨0, Nat.zero_le _, rfl, fun q _ _ hq => absurd hq (by omega), SS.out, CC.out⟩
      case round =>
        obtain ⟨j, hj, rfl, hall, S, c⟩ := hrel
        clear SS CC
        have k0 : wr.cell? ⟨w.heap.size, 0, none⟩ = some (.slice A0 n0 c0) := (S.at_ 1 rfl).cell 0
        have k1 : wr.cell? ⟨w.heap.size, 1, none⟩ = some (.slice A1 n1 c1) := (S.at_ 1 rfl).cell 1
        have k2 : wr.cell? ⟨w.heap.size + 1, 0, none⟩ = some (.slice E0 n0 g0) := (S.at_ 0 rfl).cell 0
        have k3 : wr.cell? ⟨w.heap.size + 1, 1, none⟩ = some (.slice E1 n1 g1) := (S.at_ 0 rfl).cell 1
        by_cases hlt : j < n1
        · obtain ⟨b, off, rfl, hb, hc⟩ := hel (by omega)
          have hjl : j < t.cuts.length := by have := HL.out; omega
          obtain ⟨hc0, hc1⟩ := hc j hjl
          have cs0 := (c.cell (p := ⟨b, off + j * 2, none⟩) (show b < _ by omega)).trans hc0
          have cs1 := (c.cell (p := ⟨b, off + j * 2 + 1, none⟩) (show b < _ by omega)).trans hc1
          obtain ⟨x0, hx0⟩ : ∃ q, q = t.cuts[j].a := ⟨_, rfl⟩
          obtain ⟨x1, hx1⟩ : ∃ q, q = t.cuts[j].b := ⟨_, rfl⟩
          rw [← hx0] at cs0
          rw [← hx1] at cs1
          have hmk : t.cuts[j] = ⟨x0, x1⟩ := by rw [hx0, hx1]
          obtain ⟨b', off', rfl, hb', hc'⟩ := hel' (by omega)
          have hjl' : j < s.cuts.length := by have := HL'.out; omega
          obtain ⟨hc0', hc1'⟩ := hc' j hjl'
          have cs0' := (c.cell (p := ⟨b', off' + j * 2, none⟩) (show b' < _ by omega)).trans hc0'
          have cs1' := (c.cell (p := ⟨b', off' + j * 2 + 1, none⟩) (show b' < _ by omega)).trans hc1'
          obtain ⟨x0', hx0'⟩ : ∃ q, q = s.cuts[j].a := ⟨_, rfl⟩
          obtain ⟨x1', hx1'⟩ : ∃ q, q = s.cuts[j].b := ⟨_, rfl⟩
          rw [← hx0'] at cs0'
          rw [← hx1'] at cs1'
          have hmk' : s.cuts[j] = ⟨x0', x1'⟩ := by rw [hx0', hx1']
          have HM := Lib.hid hmk
          have HM' := Lib.hid hmk'
          have HA := Lib.hid hall
          have i0 : (0 : Int) ≤ (j : Int) := by omega
          have i1 : (j : Int) < (n1 : Int) := by omega
          have c2 := c.alloc c.size (.cells #[.int .i64 x0, .int .i64 x1] 75)
          have S2 := S.box c.size #[.int .i64 x0, .int .i64 x1] 75
          have bb : Below wr.heap.size wr (wr.alloc (.cells #[.int .i64 x0, .int .i64 x1] 75)) := (Below.refl _ _).alloc (Nat.le_refl _) _
          have hbw' : b' < wr.heap.size := by have := c.size; omega
          have cu0 := (bb.cell (p := ⟨b', off' + j * 2, none⟩) hbw').trans cs0'
          have cu1 := (bb.cell (p := ⟨b', off' + j * 2 + 1, none⟩) hbw').trans cs1'
          have l3 : (wr.alloc (.cells #[.int .i64 x0, .int .i64 x1] 75)).cell? ⟨w.heap.size + 1, 1, none⟩ = some (.slice (some ⟨b', off', none⟩) n1 g1) := (S2.at_ 1 rfl).cell 1
          have SH := Lib.hid S2.tail
          have C := Lib.hid c2
          clear hx0 hx1 hmk hc hc0 hc1 hel hx0' hx1' hmk' hc' hc0' hc1' hel' hall S c S2 c2 bb
          have HK := Lib.hid (show ¬ (x0 = x0' ∧ x1 = x1') → linkEq ⟨x0, x1⟩ ⟨x0', x1'⟩ = false from fun h => by
            rw [Bool.eq_false_iff]
            intro hh
            have := (linkEq_iff _ _).1 hh
            injection this with h1 h2
            exact h ⟨h1, h2⟩)
          by_cases e0 : x0 = x0'
          case' pos =>
            subst e0
            by_cases e1 : x1 = x1'
          case pos =>
            subst e1
            have HN := Lib.hid (show ∀ q (hq : q < t.cuts.length) (hq' : q < s.cuts.length), q < j + 1 → linkEq t.cuts[q] s.cuts[q] = true from fun q hq hq' hlt2 => by
              by_cases e : q = j
              · subst e
                rw [HM.out, HM'.out]
                exact linkEq_refl _
              · exact HA.out q hq hq' (by omega))
            go_wp2
            go_quiet (fail)
            go_wp2
            go_roundw
            case rel => exact ⟨j + 1, by omega, by go_num, HN.out, SH.out.keep (below_drewN (Below.refl _ _) _), below_drewN C.out _⟩
            case measure => simp [intOf]; omega
          all_goals
            have HD := Lib.hid (show sameNet t s = false by unfold sameNet; rw [allEq_bad hjl hjl' (by rw [HM.out, HM'.out]; exact HK.out (fun h => by first | exact e0 h.1 | exact e1 h.2)), Bool.and_false])
            go_wp2
            go_quiet (fail)
            go_wp2
            go_ret
            exact ⟨ret_bool HD.out.symm, below_drewN C.out _⟩
        · have HD := Lib.hid (show sameNet t s = true by
            unfold sameNet
            rw [HF.out, Bool.true_and]
            exact allEq_end (by have := HL.out; have := HL'.out; omega) (fun q hq => hall q hq (by have := HL.out; have := HL'.out; omega) (by have := HL.out; omega)))
          have CC := Lib.hid c
          clear hel hel' hall c S
          go_wp2
          go_ret
          exact ⟨ret_bool HD.out.symm, CC.out⟩

theorem sSameNet_at (A0 : Option Addr) (n0 c0 : Nat) (A1 : Option Addr) (n1 c1 : Nat) (t : NetM) (E0 : Option Addr) (m0 g0 : Nat) (E1 : Option Addr) (m1 g1 : Nat) (s : NetM) (w : World) (h : Rd w w.heap.size t.cells [.slice A0 n0 c0, .slice A1 n1 c1]) (hs : t.sz ≤ 1048576) (h' : Rd w w.heap.size s.cells [.slice E0 m0 g0, .slice E1 m1 g1]) (hs' : s.sz ≤ 1048576) :
    Calls Try.prog 59 #[.agg #[.slice A0 n0 c0, .slice A1 n1 c1], .agg #[.slice E0 m0 g0, .slice E1 m1 g1]] w fun e w' => e = .returned (.bool (sameNet t s)) ∧ Below w.heap.size w w' :=
  sSameNet_any _ _ _ _ t s _ _ w h h' (Nat.le_refl _) (Nat.le_refl _) (by omega) (by omega)
theorem iSameNet_at (A0 : Option Addr) (n0 c0 : Nat) (A1 : Option Addr) (n1 c1 : Nat) (t : NetM) (E0 : Option Addr) (m0 g0 : Nat) (E1 : Option Addr) (m1 g1 : Nat) (s : NetM) (w : World) (h : Rd w w.heap.size t.cells [.slice A0 n0 c0, .slice A1 n1 c1]) (hs : t.sz ≤ 1048576) (h' : Rd w w.heap.size s.cells [.slice E0 m0 g0, .slice E1 m1 g1]) (hs' : s.sz ≤ 1048576) :
    Calls Try.prog 34 #[.agg #[.slice A0 n0 c0, .slice A1 n1 c1], .agg #[.slice E0 m0 g0, .slice E1 m1 g1]] w fun e w' => e = .returned (.bool (sameNet t s)) ∧ Below w.heap.size w w' :=
  iSameNet_any _ _ _ _ t s _ _ w h h' (Nat.le_refl _) (Nat.le_refl _) (by omega) (by omega)

end Go.Proofs.Ytdcdcccdihhhcaa

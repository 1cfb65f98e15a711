/-
  Chapter 6: a clock advanced and set, of the model and of the program (by program, wip/gen/gentimc.py).
-/
import Derived.Test.YthekcaahkokjfaaTimC1
import Derived.Test.YthekcaahkokjfaaRow5
import Derived.RegionTactic
import Derived.BigQuiet
namespace Go.Proofs.Ythekcaahkokjfaa
set_option maxRecDepth 100000
open Go.RowKit

/-- A new slice of numbers and a bool are handed back; what was there is as it was. -/
def MadeIB (w : World) (r : List Int × Bool) (e : Ending) (w' : World) : Prop :=
  ∃ A n c, e = .returned (.tuple #[.slice A n c, .bool r.2]) ∧ Own w' w.heap.size A n c r.1 ∧ Below w.heap.size w w'

set_option maxHeartbeats 6400000 in
theorem sJumped_any (A : Option Addr) (n c : Nat) (l : List Int) (x y : Int) (w : World) (h : IRow w w.heap.size A n l) (hn : n ≤ 1048577) :
    Calls Try.prog 38 #[.slice A n c, .int .i64 x, .int .i64 y] w (MadeIB w (jumpedM l x y)) := by
  have HH := Lib.hid h
  have hl := h.1
  go_enter Try.func38, Try.ntmps38
  go_wp2_with fail
  refine (sClocks_any A n c _ l _ h hn).mono ?_
  rintro e _ ⟨rfl, rfl⟩
  cases hok : clocksB l
  case false =>
    have HD := Lib.hid (show jumpedM l x y = ([], false) by unfold jumpedM; rw [hok]; rfl)
    clear hok h hl
    go_wp2
    go_ret2
    exact ⟨_, _, _, by rw [HD.out]; rfl, by rw [HD.out]; exact own_empty w, (Below.refl _ _).alloc (Nat.le_refl _) _⟩
  case true =>
    have HD := Lib.hid (show jumpedM l x y = if (nodeB x && timeB y) = true then (l.set x.toNat y, true) else (l, false) by unfold jumpedM; rw [if_pos hok])
    have HK := Lib.hid hok
    have h6 : n = 6 := by rw [← hl]; exact (clocksB_spec hok).1
    subst h6
    have HL := Lib.hid hl
    clear h hl hok
    go_wp2_with fail
    refine (sRow_any A 6 c l _ HH.out (by omega)).mono ?_
    rintro e w1 ⟨G, m, gc, rfl, o, b⟩
    obtain rfl : m = 6 := by rw [← o.len]; exact HL.out
    obtain ⟨g, rfl, hg1, hg2⟩ := o.at_ (by omega)
    have O := Lib.hid o
    have B := Lib.hid b
    clear o b
    go_wp2_with fail
    refine (sNode_any x _).mono ?_
    rintro e _ ⟨rfl, rfl⟩
    cases hnb : nodeB x
    case false =>
      have HE := Lib.hid (show jumpedM l x y = (l, false) by rw [HD.out, hnb]; rfl)
      go_wp2
      go_ret2
      exact ⟨_, _, _, by rw [HE.out]; rfl, by rw [HE.out]; exact O.out, B.out⟩
    case true =>
      go_wp2_with fail
      refine (sTime_any y _).mono ?_
      rintro e _ ⟨rfl, rfl⟩
      cases htb : timeB y
      case false =>
        have HE := Lib.hid (show jumpedM l x y = (l, false) by rw [HD.out, hnb, htb]; rfl)
        go_wp2
        go_ret2
        exact ⟨_, _, _, by rw [HE.out]; rfl, by rw [HE.out]; exact O.out, B.out⟩
      case true =>
        obtain ⟨i, hi, rfl⟩ := nodeB_nat hnb
        obtain ⟨y0, y1⟩ := (timeB_iff y).1 htb
        have hil : i < l.length := by have := HL.out; omega
        have ck0 := O.out.cell_ hi
        have fo : w1.frozen? ⟨g, i, none⟩ = false := World.ownsRow.frozenAt O.out i
        have HE := Lib.hid (show jumpedM l (i : Int) y = (l.set i y, true) by rw [HD.out, hnb, htb]; rfl)
        have OP := Lib.hid (O.out.put_ i y)
        have BP := Lib.hid (B.out.setCell (p := ⟨g, i, none⟩) (show w.heap.size ≤ g from hg1) (.int .i64 y))
        go_wp2
        go_ret2
        exact ⟨_, _, _, by rw [HE.out]; rfl, by rw [HE.out]; exact OP.out, BP.out⟩

set_option maxHeartbeats 6400000 in
theorem iJumped_any (A : Option Addr) (n c : Nat) (l : List Int) (x y : Int) (w : World) (h : IRow w w.heap.size A n l) (hn : n ≤ 1048577) :
    Calls Try.prog 20 #[.slice A n c, .int .i64 x, .int .i64 y] w (MadeIB w (jumpedM l x y)) := by
  have HH := Lib.hid h
  have hl := h.1
  go_enter Try.func20, Try.ntmps20
  go_wp2_with fail
  refine (iClocks_any A n c _ l _ h hn).mono ?_
  rintro e _ ⟨rfl, rfl⟩
  cases hok : clocksB l
  case false =>
    have HD := Lib.hid (show jumpedM l x y = ([], false) by unfold jumpedM; rw [hok]; rfl)
    clear hok h hl
    go_wp2
    go_ret2
    exact ⟨_, _, _, by rw [HD.out]; rfl, by rw [HD.out]; exact World.ownsRow_nil w _ _ _, Below.refl _ _⟩
  case true =>
    have HD := Lib.hid (show jumpedM l x y = if (nodeB x && timeB y) = true then (l.set x.toNat y, true) else (l, false) by unfold jumpedM; rw [if_pos hok])
    have HK := Lib.hid hok
    have h6 : n = 6 := by rw [← hl]; exact (clocksB_spec hok).1
    subst h6
    have HL := Lib.hid hl
    clear h hl hok
    go_wp2_with fail
    refine (iCopy_any A 6 c l _ HH.out (by omega)).mono ?_
    rintro e w1 ⟨G, m, gc, rfl, o, b⟩
    obtain rfl : m = 6 := by rw [← o.len]; exact HL.out
    obtain ⟨g, rfl, hg1, hg2⟩ := o.at_ (by omega)
    have O := Lib.hid o
    have B := Lib.hid b
    clear o b
    go_wp2_with fail
    refine (iNode_any x _).mono ?_
    rintro e _ ⟨rfl, rfl⟩
    cases hnb : nodeB x
    case false =>
      have HE := Lib.hid (show jumpedM l x y = (l, false) by rw [HD.out, hnb]; rfl)
      go_wp2
      go_ret2
      exact ⟨_, _, _, by rw [HE.out]; rfl, by rw [HE.out]; exact O.out, B.out⟩
    case true =>
      go_wp2_with fail
      refine (iTime_any y _).mono ?_
      rintro e _ ⟨rfl, rfl⟩
      cases htb : timeB y
      case false =>
        have HE := Lib.hid (show jumpedM l x y = (l, false) by rw [HD.out, hnb, htb]; rfl)
        go_wp2
        go_ret2
        exact ⟨_, _, _, by rw [HE.out]; rfl, by rw [HE.out]; exact O.out, B.out⟩
      case true =>
        obtain ⟨i, hi, rfl⟩ := nodeB_nat hnb
        obtain ⟨y0, y1⟩ := (timeB_iff y).1 htb
        have hil : i < l.length := by have := HL.out; omega
        have ck0 := O.out.cell_ hi
        have fo : w1.frozen? ⟨g, i, none⟩ = false := World.ownsRow.frozenAt O.out i
        have HE := Lib.hid (show jumpedM l (i : Int) y = (l.set i y, true) by rw [HD.out, hnb, htb]; rfl)
        have OP := Lib.hid (O.out.put_ i y)
        have BP := Lib.hid (B.out.setCell (p := ⟨g, i, none⟩) (show w.heap.size ≤ g from hg1) (.int .i64 y))
        go_wp2
        go_ret2
        exact ⟨_, _, _, by rw [HE.out]; rfl, by rw [HE.out]; exact OP.out, BP.out⟩

set_option maxHeartbeats 6400000 in
theorem sTicked_any (A : Option Addr) (n c : Nat) (l : List Int) (x y : Int) (w : World) (h : IRow w w.heap.size A n l) (hn : n ≤ 1048577) :
    Calls Try.prog 35 #[.slice A n c, .int .i64 x, .int .i64 y] w (MadeIB w (tickedM l x y)) := by
  have HH := Lib.hid h
  have hl := h.1
  go_enter Try.func35, Try.ntmps35
  go_wp2_with fail
  refine (sClocks_any A n c _ l _ h hn).mono ?_
  rintro e _ ⟨rfl, rfl⟩
  cases hok : clocksB l
  case false =>
    have HD := Lib.hid (show tickedM l x y = ([], false) by unfold tickedM; rw [hok]; rfl)
    clear hok h hl
    go_wp2
    go_ret2
    exact ⟨_, _, _, by rw [HD.out]; rfl, by rw [HD.out]; exact own_empty w, (Below.refl _ _).alloc (Nat.le_refl _) _⟩
  case true =>
    have HD := Lib.hid (show tickedM l x y = if (nodeB x && (timeB y && decide (nth l x + y ≤ 1000000))) = true then (l.set x.toNat (nth l x + y), true) else (l, false) by unfold tickedM; rw [if_pos hok])
    have HK := Lib.hid hok
    have h6 : n = 6 := by rw [← hl]; exact (clocksB_spec hok).1
    subst h6
    have HL := Lib.hid hl
    clear h hl hok
    go_wp2_with fail
    refine (sRow_any A 6 c l _ HH.out (by omega)).mono ?_
    rintro e w1 ⟨G, m, gc, rfl, o, b⟩
    obtain rfl : m = 6 := by rw [← o.len]; exact HL.out
    obtain ⟨g, rfl, hg1, hg2⟩ := o.at_ (by omega)
    have O := Lib.hid o
    have B := Lib.hid b
    clear o b
    go_wp2_with fail
    refine (sNode_any x _).mono ?_
    rintro e _ ⟨rfl, rfl⟩
    cases hnb : nodeB x
    case false =>
      have HE := Lib.hid (show tickedM l x y = (l, false) by rw [HD.out, hnb]; rfl)
      go_wp2
      go_ret2
      exact ⟨_, _, _, by rw [HE.out]; rfl, by rw [HE.out]; exact O.out, B.out⟩
    case true =>
      go_wp2_with fail
      refine (sTime_any y _).mono ?_
      rintro e _ ⟨rfl, rfl⟩
      cases htb : timeB y
      case false =>
        have HE := Lib.hid (show tickedM l x y = (l, false) by rw [HD.out, hnb, htb]; rfl)
        go_wp2
        go_ret2
        exact ⟨_, _, _, by rw [HE.out]; rfl, by rw [HE.out]; exact O.out, B.out⟩
      case true =>
        obtain ⟨i, hi, rfl⟩ := nodeB_nat hnb
        obtain ⟨y0, y1⟩ := (timeB_iff y).1 htb
        have hil : i < l.length := by have := HL.out; omega
        obtain ⟨b0, off, rfl, hb, hc⟩ := irow_at HH.out (by omega)
        have cs0 := hc i hil
        have hz := (clocksB_spec HK.out).2 i hil
        have hnth := nth_at hil
        obtain ⟨z, hz0⟩ : ∃ q : Int, q = l[i]'hil := ⟨_, rfl⟩
        rw [← hz0] at cs0 hz hnth
        obtain ⟨z0, z1⟩ := hz
        have cs1 : w1.cell? ⟨b0, off + i, none⟩ = some (.int .i64 z) := (B.out.cell (p := ⟨b0, off + i, none⟩) (show b0 < _ by omega)).trans cs0
        have ck0 : w1.cell? ⟨g, i, none⟩ = some (.int .i64 z) := by rw [O.out.cell_ hi, hz0]; simp [List.getD, List.getElem?_eq_getElem hil]
        have fo : w1.frozen? ⟨g, i, none⟩ = false := World.ownsRow.frozenAt O.out i
        have HN := Lib.hid hnth
        clear hc hnth hz0
        by_cases hbig : z + y ≤ 1000000
        case neg =>
          have HE := Lib.hid (show tickedM l (i : Int) y = (l, false) by rw [HD.out, hnb, htb, HN.out, decide_eq_false hbig]; rfl)
          go_wp2
          go_ret2
          exact ⟨_, _, _, by rw [HE.out]; rfl, by rw [HE.out]; exact O.out, B.out⟩
        case pos =>
          have HE := Lib.hid (show tickedM l (i : Int) y = (l.set i (z + y), true) by rw [HD.out, hnb, htb, HN.out, decide_eq_true hbig]; rfl)
          have OP := Lib.hid (O.out.put_ i (z + y))
          have BP := Lib.hid (B.out.setCell (p := ⟨g, i, none⟩) (show w.heap.size ≤ g from hg1) (.int .i64 (z + y)))
          go_wp2
          go_ret2
          exact ⟨_, _, _, by rw [HE.out]; rfl, by rw [HE.out]; exact OP.out, BP.out⟩

set_option maxHeartbeats 6400000 in
theorem iTicked_any (A : Option Addr) (n c : Nat) (l : List Int) (x y : Int) (w : World) (h : IRow w w.heap.size A n l) (hn : n ≤ 1048577) :
    Calls Try.prog 19 #[.slice A n c, .int .i64 x, .int .i64 y] w (MadeIB w (tickedM l x y)) := by
  have HH := Lib.hid h
  have hl := h.1
  go_enter Try.func19, Try.ntmps19
  go_wp2_with fail
  refine (iClocks_any A n c _ l _ h hn).mono ?_
  rintro e _ ⟨rfl, rfl⟩
  cases hok : clocksB l
  case false =>
    have HD := Lib.hid (show tickedM l x y = ([], false) by unfold tickedM; rw [hok]; rfl)
    clear hok h hl
    go_wp2
    go_ret2
    exact ⟨_, _, _, by rw [HD.out]; rfl, by rw [HD.out]; exact World.ownsRow_nil w _ _ _, Below.refl _ _⟩
  case true =>
    have HD := Lib.hid (show tickedM l x y = if (nodeB x && (timeB y && decide (nth l x + y ≤ 1000000))) = true then (l.set x.toNat (nth l x + y), true) else (l, false) by unfold tickedM; rw [if_pos hok])
    have HK := Lib.hid hok
    have h6 : n = 6 := by rw [← hl]; exact (clocksB_spec hok).1
    subst h6
    have HL := Lib.hid hl
    clear h hl hok
    go_wp2_with fail
    refine (iNode_any x _).mono ?_
    rintro e _ ⟨rfl, rfl⟩
    cases hnb : nodeB x
    case false =>
      have HE := Lib.hid (show tickedM l x y = (l, false) by rw [HD.out, hnb]; rfl)
      go_wp2_with fail
      refine (iCopy_any A 6 c l _ HH.out (by omega)).mono ?_
      rintro e w1 ⟨G, m, gc, rfl, o, b⟩
      go_wp2
      go_ret2
      exact ⟨_, _, _, by rw [HE.out]; rfl, by rw [HE.out]; exact o, b⟩
    case true =>
      go_wp2_with fail
      refine (iTime_any y _).mono ?_
      rintro e _ ⟨rfl, rfl⟩
      cases htb : timeB y
      case false =>
        have HE := Lib.hid (show tickedM l x y = (l, false) by rw [HD.out, hnb, htb]; rfl)
        go_wp2_with fail
        refine (iCopy_any A 6 c l _ HH.out (by omega)).mono ?_
        rintro e w1 ⟨G, m, gc, rfl, o, b⟩
        go_wp2
        go_ret2
        exact ⟨_, _, _, by rw [HE.out]; rfl, by rw [HE.out]; exact o, b⟩
      case true =>
        obtain ⟨i, hi, rfl⟩ := nodeB_nat hnb
        obtain ⟨y0, y1⟩ := (timeB_iff y).1 htb
        have hil : i < l.length := by have := HL.out; omega
        obtain ⟨b0, off, rfl, hb, hc⟩ := irow_at HH.out (by omega)
        have cs0 := hc i hil
        have hz := (clocksB_spec HK.out).2 i hil
        have hnth := nth_at hil
        obtain ⟨z, hz0⟩ : ∃ q : Int, q = l[i]'hil := ⟨_, rfl⟩
        rw [← hz0] at cs0 hz hnth
        obtain ⟨z0, z1⟩ := hz
        have HN := Lib.hid hnth
        clear hc hnth hz0
        by_cases hbig : z + y ≤ 1000000
        case neg =>
          have HE := Lib.hid (show tickedM l (i : Int) y = (l, false) by rw [HD.out, hnb, htb, HN.out, decide_eq_false hbig]; rfl)
          have HJ := Lib.hid (show jumpedM l (i : Int) (z + y) = (l, false) by unfold jumpedM; rw [if_pos HK.out, hnb, show timeB (z + y) = false by unfold timeB; rw [decide_eq_false hbig, Bool.and_false]]; rfl)
          go_wp2_with fail
          refine (iJumped_any _ 6 c l (i : Int) (z + y) _ HH.out (by omega)).mono ?_
          rintro e w1 ⟨G, m, gc, rfl, o, b⟩
          go_wp2
          go_ret2
          exact ⟨_, _, _, by rw [HE.out, HJ.out]; rfl, by rw [HE.out]; rw [HJ.out] at o; exact o, b⟩
        case pos =>
          have HE := Lib.hid (show tickedM l (i : Int) y = (l.set i (z + y), true) by rw [HD.out, hnb, htb, HN.out, decide_eq_true hbig]; rfl)
          have HJ := Lib.hid (show jumpedM l (i : Int) (z + y) = (l.set i (z + y), true) by unfold jumpedM; rw [if_pos HK.out, hnb, show timeB (z + y) = true from (timeB_iff _).2 ⟨by omega, hbig⟩]; rfl)
          go_wp2_with fail
          refine (iJumped_any _ 6 c l (i : Int) (z + y) _ HH.out (by omega)).mono ?_
          rintro e w1 ⟨G, m, gc, rfl, o, b⟩
          go_wp2
          go_ret2
          exact ⟨_, _, _, by rw [HE.out, HJ.out]; rfl, by rw [HE.out]; rw [HJ.out] at o; exact o, b⟩

theorem sJumped_at (A0 : Option Addr) (n0 c0 : Nat) (d : List Int) (x y : Int) (w : World) (h : Rd w w.heap.size (rowCells d) [.slice A0 n0 c0]) (hs : d.length ≤ 1048576) :
    Calls Try.prog 38 #[.slice A0 n0 c0, .int .i64 x, .int .i64 y] w fun e w' => ∃ (A : Option Addr) (n c : Nat), e = .returned (.tuple #[.slice A n c, .bool (jumpedM d x y).2]) ∧ Has w' w.heap.size (rowCells (jumpedM d x y).1) [.slice A n c] ∧ Below w.heap.size w w' := by
  obtain ⟨_, _, _, e, hi, _⟩ := h.irow
  injection e with e1 e2 e3
  subst e1 e2 e3
  refine (sJumped_any A0 n0 c0 d x y w hi (by rw [← hi.1]; omega)).mono ?_
  rintro e w' ⟨A, n, c, rfl, o, b⟩
  exact ⟨A, n, c, rfl, o.has, b⟩
theorem sTicked_at (A0 : Option Addr) (n0 c0 : Nat) (d : List Int) (x y : Int) (w : World) (h : Rd w w.heap.size (rowCells d) [.slice A0 n0 c0]) (hs : d.length ≤ 1048576) :
    Calls Try.prog 35 #[.slice A0 n0 c0, .int .i64 x, .int .i64 y] w fun e w' => ∃ (A : Option Addr) (n c : Nat), e = .returned (.tuple #[.slice A n c, .bool (tickedM d x y).2]) ∧ Has w' w.heap.size (rowCells (tickedM d x y).1) [.slice A n c] ∧ Below w.heap.size w w' := by
  obtain ⟨_, _, _, e, hi, _⟩ := h.irow
  injection e with e1 e2 e3
  subst e1 e2 e3
  refine (sTicked_any A0 n0 c0 d x y w hi (by rw [← hi.1]; omega)).mono ?_
  rintro e w' ⟨A, n, c, rfl, o, b⟩
  exact ⟨A, n, c, rfl, o.has, b⟩
theorem iJumped_at (A0 : Option Addr) (n0 c0 : Nat) (d : List Int) (x y : Int) (w : World) (h : Rd w w.heap.size (rowCells d) [.slice A0 n0 c0]) (hs : d.length ≤ 1048576) :
    Calls Try.prog 20 #[.slice A0 n0 c0, .int .i64 x, .int .i64 y] w fun e w' => ∃ (A : Option Addr) (n c : Nat), e = .returned (.tuple #[.slice A n c, .bool (jumpedM d x y).2]) ∧ Has w' w.heap.size (rowCells (jumpedM d x y).1) [.slice A n c] ∧ Below w.heap.size w w' := by
  obtain ⟨_, _, _, e, hi, _⟩ := h.irow
  injection e with e1 e2 e3
  subst e1 e2 e3
  refine (iJumped_any A0 n0 c0 d x y w hi (by rw [← hi.1]; omega)).mono ?_
  rintro e w' ⟨A, n, c, rfl, o, b⟩
  exact ⟨A, n, c, rfl, o.has, b⟩
theorem iTicked_at (A0 : Option Addr) (n0 c0 : Nat) (d : List Int) (x y : Int) (w : World) (h : Rd w w.heap.size (rowCells d) [.slice A0 n0 c0]) (hs : d.length ≤ 1048576) :
    Calls Try.prog 19 #[.slice A0 n0 c0, .int .i64 x, .int .i64 y] w fun e w' => ∃ (A : Option Addr) (n c : Nat), e = .returned (.tuple #[.slice A n c, .bool (tickedM d x y).2]) ∧ Has w' w.heap.size (rowCells (tickedM d x y).1) [.slice A n c] ∧ Below w.heap.size w w' := by
  obtain ⟨_, _, _, e, hi, _⟩ := h.irow
  injection e with e1 e2 e3
  subst e1 e2 e3
  refine (iTicked_any A0 n0 c0 d x y w hi (by rw [← hi.1]; omega)).mono ?_
  rintro e w' ⟨A, n, c, rfl, o, b⟩
  exact ⟨A, n, c, rfl, o.has, b⟩

end Go.Proofs.Ythekcaahkokjfaa

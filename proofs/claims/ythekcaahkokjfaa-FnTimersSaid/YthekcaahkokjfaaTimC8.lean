/-
  Chapter 6: timers copied, due and taken out, of the model and of the program (by program, wip/gen/gentimh.py).
-/
import Derived.Test.YthekcaahkokjfaaTimC5
import Derived.Test.YthekcaahkokjfaaTimC6
import Derived.Test.YthekcaahkokjfaaTimC7
import Derived.Test.YthekcaahkokjfaaKA
import Derived.RegionTactic
import Derived.BigQuiet
import Derived.Laws.EntriesVeiled
namespace Go.Proofs.Ythekcaahkokjfaa
set_option maxRecDepth 100000
open Go.RowKit

theorem timer_flat : ∀ x : TimerM, timerC x = ([x.tid, x.due]).flatMap fun y => [Dat.int y] := fun _ => rfl
theorem size_timer : (Try.prog.info? 64).map (·.size) = some 2 := by kernel_rfl

set_option maxHeartbeats 3200000 in
theorem iCopyT_any (A : Option Addr) (n cc : Nat) (l : List TimerM) (w : World) (h : Rd w w.heap.size [timerD l] [.slice A n cc]) (hs : timerSz l ≤ 1048577) :
    Calls Try.prog 58 #[.slice A n cc] w (MadeTimerS w l) := by
  have hsr := Rd.src timer_flat timerC_len (by decide) h
  have hn : n ≤ 1048577 := by unfold timerSz at hs; omega
  have hmk := run_make_k (P := Try.prog) 33 64 (.agg #[.int .i64 0, .int .i64 0]) #[.int .i64 0, .int .i64 0] 2 16 Try.underlying33 infoTimer rfl .i64 .i64 n (by omega) (by omega)
  have S := (Sep.nil w w.heap.size).made (e := 64) (f := timerC) (x0 := (⟨0, 0⟩ : TimerM)) (zc := #[.int .i64 0, .int .i64 0]) (k := 2) (Nat.le_refl _) rfl (by decide) n (by simp only [maxLen]; omega) ow_zero_timer (p := w.heap.size) rfl
  have c := (Below.refl w.heap.size w).alloc (Nat.le_refl _) (.cells (madeCells #[.int .i64 0, .int .i64 0] (n * 2)) 64)
  have hs2 := Rd.src timer_flat timerC_len (by decide) (h.keep c)
  go_enter Try.func58, Try.ntmps58
  go_wp2_with (first
    | (refine wpList_copy_flat (k := 2) (l2 := l) rfl (.tmp 7) (.tmp 8) (by rfl) Try.underlying33 size_timer (by decide) timerC_len timer_flat (by rfl) (S.own_ 0 rfl) (by rfl) hs2.1 hs2.2 ?_
       intro w6 o6 t6
       have H := Lib.hid (S.mark 0 rfl t6 o6).first
       have C := Lib.hid (c.trans (S.below 0 rfl t6 c.size))))
  go_ret
  exact ⟨_, _, _, rfl, H.out, C.out⟩

theorem row_blk6 {w : World} {p : Nat} {x : Int} (h : Blk w p #[.int .i64 x] 2) : IRow w w.heap.size (some ⟨p, 0, none⟩) 1 [x] := by
  refine ⟨rfl, fun _ => ⟨p, 0, rfl, h.lt, fun j hj => ?_⟩⟩
  have : j = 0 := by omega
  subst this
  exact h.cell 0

set_option maxHeartbeats 6400000 in
theorem sDue_any (A : Option Addr) (n cc : Nat) (l : List TimerM) (now : Int) (w : World) (h : Rd w w.heap.size [timerD l] [.slice A n cc]) (hs : timerSz l ≤ 1048577) :
    Calls Try.prog 49 #[.slice A n cc, .int .i64 now] w (MadeI w (dueM l now)) := by
  have HH := Lib.hid h
  obtain ⟨_, _, _, e, hl, _, hcm, hel⟩ := h.timers
  injection e with e1 e2 e3
  subst e1 e2 e3
  have HL := Lib.hid hl
  have hn : n ≤ 1048577 := by unfold timerSz at hs; omega
  clear h hl hcm
  have o0 := own_empty w
  have c0 := (Below.refl w.heap.size w).alloc (Nat.le_refl _) (.cells #[] 2)
  go_enter Try.func49, Try.ntmps49
  go_wp2_with fail
  refine (sTimers_any A n cc w.heap.size l _ (HH.out.keep c0) c0.size hs).mono ?_
  rintro e w1 ⟨rfl, b⟩
  have o := o0.below b
  have c := c0.trans (b.mono c0.size)
  clear b o0 c0
  have O := Lib.hid o
  have C := Lib.hid c
  clear o c
  cases hok : timersB l
  case false =>
    have HD := Lib.hid (show dueM l now = [] by unfold dueM; rw [hok]; rfl)
    clear hok hel
    go_wp2
    go_ret
    exact ⟨_, _, _, rfl, by rw [HD.out]; exact O.out.has, C.out⟩
  case true =>
    have HD := Lib.hid (show dueM l now = dueN l now l.length by unfold dueM; rw [if_pos hok])
    clear hok
    go_wp2
    go_loopw [5, 6] (fun u i wr => ∃ (j : Nat) (G : Option Addr) (m gc : Nat), j ≤ n ∧ i = .int .i64 (j : Int) ∧ u = .slice G m gc ∧ m ≤ j ∧ Own wr w.heap.size G m gc (dueN l now j) ∧ Below w.heap.size w wr) (fun _ i _ => n - (intOf i).toNat)
    case atStart => exact ⟨0, _, 0, 0, Nat.zero_le _, rfl, rfl, Nat.le_refl _, O.out, C.out⟩
    case round =>
      obtain ⟨j, G, m, gc, hj, rfl, rfl, hm, o, c⟩ := hrel
      clear O C
      by_cases hlt : j < n
      · obtain ⟨b, off, rfl, hb, hc⟩ := hel (by omega)
        have hjl : j < l.length := by have := HL.out; omega
        obtain ⟨hc0, hc1⟩ := hc j hjl
        have cs0 := (c.cell (p := ⟨b, off + j * 2, none⟩) (show b < _ by omega)).trans hc0
        have cs1 := (c.cell (p := ⟨b, off + j * 2 + 1, none⟩) (show b < _ by omega)).trans hc1
        obtain ⟨x0, hx0⟩ : ∃ q, q = l[j].tid := ⟨_, rfl⟩
        obtain ⟨x1, hx1⟩ : ∃ q, q = l[j].due := ⟨_, rfl⟩
        rw [← hx0] at cs0
        rw [← hx1] at cs1
        have hmk : l[j] = ⟨x0, x1⟩ := by rw [hx0, hx1]
        have HA := Lib.hid (fun h : x1 ≤ now => dueN_yes (now := now) hjl (by rw [hmk]; exact h))
        have HB := Lib.hid (fun h : ¬ x1 ≤ now => dueN_no (now := now) hjl (by rw [hmk]; exact h))
        have HM := Lib.hid hmk
        have zb := c.size
        clear hx0 hx1 hmk hc hc0 hc1 hel
        by_cases hd : x1 ≤ now
        case neg =>
          have HN := Lib.hid (HB.out hd)
          have O := Lib.hid o
          have C := Lib.hid c
          clear o c
          go_wp2
          go_roundw
          case rel => exact ⟨j + 1, G, m, gc, by omega, by go_num, rfl, by omega, by rw [HN.out]; exact O.out, C.out⟩
          case measure => simp [intOf]; omega
        case pos =>
          have HN := Lib.hid (show dueN l now (j + 1) = dueN l now j ++ [x0] by rw [HA.out hd, HM.out])
          have bl : Below wr.heap.size wr (wr.alloc (.cells #[.int .i64 x0] 2)) := (Below.refl _ _).alloc (Nat.le_refl _) _
          have o3 := o.below bl
          have c3 := c.trans (bl.mono c.size)
          have pl : Blk (wr.alloc (.cells #[.int .i64 x0] 2)) (wr.heap.size) #[.int .i64 x0] 2 := by simpa using Blk.new wr #[.int .i64 x0] 2
          have rl := row_blk6 pl
          have C3 := Lib.hid c3
          clear o c bl c3
          go_wp2_with (first
            | (at_builtin
               refine wpList_append_ints rfl (.tmp 25) (.tmp 31) rfl rfl o3 rfl rl C3.out.size (by omega) ?_
               intro A2 c2' w5 o5 g5 e5))
          have CC := Lib.hid (C3.out.grown g5 C3.out.size (fun q hq => by have := o3.ge q hq; omega))
          have O5 := Lib.hid o5
          clear o3 o5 g5 e5 rl pl
          go_roundw
          case rel => exact ⟨j + 1, _, _, _, by omega, by go_num, rfl, by omega, by rw [HN.out]; exact O5.out, CC.out⟩
          case measure => simp [intOf]; omega
      · have OO := Lib.hid (show Own wr w.heap.size G m gc (dueN l now l.length) by
          have e : j = l.length := by have := HL.out; omega
          rw [← e]
          exact o)
        have CC := Lib.hid c
        clear hel o c
        go_wp2
        go_ret
        exact ⟨_, _, _, rfl, by rw [HD.out]; exact OO.out.has, CC.out⟩

set_option maxHeartbeats 6400000 in
theorem iDue_any (A : Option Addr) (n cc : Nat) (l : List TimerM) (now : Int) (w : World) (h : Rd w w.heap.size [timerD l] [.slice A n cc]) (hs : timerSz l ≤ 1048577) :
    Calls Try.prog 26 #[.slice A n cc, .int .i64 now] w (MadeI w (dueM l now)) := by
  have HH := Lib.hid h
  obtain ⟨_, _, _, e, hl, _, hcm, hel⟩ := h.timers
  injection e with e1 e2 e3
  subst e1 e2 e3
  have HL := Lib.hid hl
  have hn : n ≤ 1048577 := by unfold timerSz at hs; omega
  clear h hl hcm
  go_enter Try.func26, Try.ntmps26
  go_wp2_with fail
  refine (iTimers_any A n cc w.heap.size l _ HH.out (Nat.le_refl _) hs).mono ?_
  rintro e w1 ⟨rfl, b⟩
  have o : Own w1 w.heap.size none 0 0 [] := World.ownsRow_nil w1 _ _ _
  have c := b
  clear b
  have O := Lib.hid o
  have C := Lib.hid c
  clear o c
  cases hok : timersB l
  case false =>
    have HD := Lib.hid (show dueM l now = [] by unfold dueM; rw [hok]; rfl)
    clear hok hel
    go_wp2
    go_ret
    exact ⟨_, _, _, rfl, by rw [HD.out]; exact O.out.has, C.out⟩
  case true =>
    have HD := Lib.hid (show dueM l now = dueN l now l.length by unfold dueM; rw [if_pos hok])
    clear hok
    go_wp2
    go_loopw [5, 13] (fun u i wr => ∃ (j : Nat) (G : Option Addr) (m gc : Nat), j ≤ n ∧ i = .int .i64 (j : Int) ∧ u = .slice G m gc ∧ m ≤ j ∧ Own wr w.heap.size G m gc (dueN l now j) ∧ Below w.heap.size w wr) (fun _ i _ => n - (intOf i).toNat)
    case atStart => exact ⟨0, none, 0, 0, Nat.zero_le _, rfl, rfl, Nat.le_refl _, O.out, C.out⟩
    case round =>
      obtain ⟨j, G, m, gc, hj, rfl, rfl, hm, o, c⟩ := hrel
      clear O C
      by_cases hlt : j < n
      · obtain ⟨b, off, rfl, hb, hc⟩ := hel (by omega)
        have hjl : j < l.length := by have := HL.out; omega
        obtain ⟨hc0, hc1⟩ := hc j hjl
        have cs0 := (c.cell (p := ⟨b, off + j * 2, none⟩) (show b < _ by omega)).trans hc0
        have cs1 := (c.cell (p := ⟨b, off + j * 2 + 1, none⟩) (show b < _ by omega)).trans hc1
        obtain ⟨x0, hx0⟩ : ∃ q, q = l[j].tid := ⟨_, rfl⟩
        obtain ⟨x1, hx1⟩ : ∃ q, q = l[j].due := ⟨_, rfl⟩
        rw [← hx0] at cs0
        rw [← hx1] at cs1
        have hmk : l[j] = ⟨x0, x1⟩ := by rw [hx0, hx1]
        have HA := Lib.hid (fun h : x1 ≤ now => dueN_yes (now := now) hjl (by rw [hmk]; exact h))
        have HB := Lib.hid (fun h : ¬ x1 ≤ now => dueN_no (now := now) hjl (by rw [hmk]; exact h))
        have HM := Lib.hid hmk
        have zb := c.size
        have ba : Below wr.heap.size wr (wr.alloc (.cells #[.int .i64 x0, .int .i64 x1] 64)) := (Below.refl _ _).alloc (Nat.le_refl _) _
        replace o := o.below ba
        replace c := c.trans (ba.mono c.size)
        clear ba hx0 hx1 hmk hc hc0 hc1 hel
        by_cases hd : x1 ≤ now
        case neg =>
          have HN := Lib.hid (HB.out hd)
          have O := Lib.hid o
          have C := Lib.hid c
          clear o c
          go_wp2
          go_roundw
          case rel => exact ⟨j + 1, G, m, gc, by omega, by go_num, rfl, by omega, by rw [HN.out]; exact O.out, C.out⟩
          case measure => simp [intOf]; omega
        case pos =>
          have HN := Lib.hid (show dueN l now (j + 1) = dueN l now j ++ [x0] by rw [HA.out hd, HM.out])
          have bl : Below (wr.alloc (.cells #[.int .i64 x0, .int .i64 x1] 64)).heap.size (wr.alloc (.cells #[.int .i64 x0, .int .i64 x1] 64)) ((wr.alloc (.cells #[.int .i64 x0, .int .i64 x1] 64)).alloc (.cells #[.int .i64 x0] 2)) := (Below.refl _ _).alloc (Nat.le_refl _) _
          have o3 := o.below bl
          have c3 := c.trans (bl.mono c.size)
          have pl : Blk ((wr.alloc (.cells #[.int .i64 x0, .int .i64 x1] 64)).alloc (.cells #[.int .i64 x0] 2)) (wr.heap.size + 1) #[.int .i64 x0] 2 := by simpa using Blk.new (wr.alloc (.cells #[.int .i64 x0, .int .i64 x1] 64)) #[.int .i64 x0] 2
          have rl := row_blk6 pl
          have C3 := Lib.hid c3
          clear o c bl c3
          go_wp2_with (first
            | (at_builtin
               refine wpList_append_ints rfl (.tmp 21) (.tmp 24) rfl rfl o3 rfl rl C3.out.size (by omega) ?_
               intro A2 c2' w5 o5 g5 e5))
          have CC := Lib.hid (C3.out.grown g5 C3.out.size (fun q hq => by have := o3.ge q hq; omega))
          have O5 := Lib.hid o5
          clear o3 o5 g5 e5 rl pl
          go_roundw
          case rel => exact ⟨j + 1, _, _, _, by omega, by go_num, rfl, by omega, by rw [HN.out]; exact O5.out, CC.out⟩
          case measure => simp [intOf]; omega
      · have OO := Lib.hid (show Own wr w.heap.size G m gc (dueN l now l.length) by
          have e : j = l.length := by have := HL.out; omega
          rw [← e]
          exact o)
        have CC := Lib.hid c
        clear hel o c
        go_wp2
        go_ret
        exact ⟨_, _, _, rfl, by rw [HD.out]; exact OO.out.has, CC.out⟩

set_option maxHeartbeats 3200000 in
theorem sNext_any (A : Option Addr) (n cc : Nat) (l : List TimerM) (w : World) (h : Rd w w.heap.size [timerD l] [.slice A n cc]) (hs : timerSz l ≤ 1048577) :
    Calls Try.prog 50 #[.slice A n cc] w fun e w' => e = .returned (.tuple #[.int .i64 (nextM l).1, .bool (nextM l).2]) ∧ Below w.heap.size w w' := by
  have HH := Lib.hid h
  obtain ⟨_, _, _, e, hl, _, hcm, hel⟩ := h.timers
  injection e with e1 e2 e3
  subst e1 e2 e3
  have HL := Lib.hid hl
  have hn : n ≤ 1048577 := by unfold timerSz at hs; omega
  clear h hl hcm
  go_enter Try.func50, Try.ntmps50
  go_wp2_with fail
  refine (sTimers_any A n cc w.heap.size l _ HH.out (Nat.le_refl _) hs).mono ?_
  rintro e w1 ⟨rfl, b⟩
  have B := Lib.hid b
  cases hok : timersB l
  case false =>
    have HD := Lib.hid (show nextM l = (0, false) by unfold nextM; rw [hok]; rfl)
    clear hok hel b
    go_wp2
    go_ret2
    exact ⟨by rw [HD.out]; rfl, B.out⟩
  case true =>
    by_cases h0 : n = 0
    case pos =>
      subst h0
      have HD := Lib.hid (show nextM l = (0, false) by
        unfold nextM
        rw [if_pos hok, List.eq_nil_of_length_eq_zero HL.out])
      clear hok hel b
      go_wp2
      go_ret2
      exact ⟨by rw [HD.out]; rfl, B.out⟩
    case neg =>
      obtain ⟨b0, off, rfl, hb, hc⟩ := hel (by omega)
      have h0l : 0 < l.length := by have := HL.out; omega
      have cs1 := (b.cell (p := ⟨b0, off + 0 * 2 + 1, none⟩) (show b0 < _ by omega)).trans (hc 0 h0l).2
      obtain ⟨x1, hx1⟩ : ∃ q : Int, q = (l[0]'h0l).due := ⟨_, rfl⟩
      rw [← hx1] at cs1
      have HD := Lib.hid (show nextM l = (x1, true) by
        unfold nextM
        rw [if_pos hok]
        cases l with
        | nil => simp at h0l
        | cons y ys => rw [hx1]; rfl)
      have cs1' : w1.cell? ⟨b0, off + 1, none⟩ = some (.int .i64 x1) := by simpa using cs1
      have hp : 0 < n := by omega
      have hnz : ¬ ((n : Int) = 0) := by omega
      clear hok hel b cs1 hx1 hc
      go_wp2
      go_ret2
      exact ⟨by rw [HD.out]; rfl, B.out⟩

set_option maxHeartbeats 3200000 in
theorem iNext_any (A : Option Addr) (n cc : Nat) (l : List TimerM) (w : World) (h : Rd w w.heap.size [timerD l] [.slice A n cc]) (hs : timerSz l ≤ 1048577) :
    Calls Try.prog 27 #[.slice A n cc] w fun e w' => e = .returned (.tuple #[.int .i64 (nextM l).1, .bool (nextM l).2]) ∧ Below w.heap.size w w' := by
  have HH := Lib.hid h
  obtain ⟨_, _, _, e, hl, _, hcm, hel⟩ := h.timers
  injection e with e1 e2 e3
  subst e1 e2 e3
  have HL := Lib.hid hl
  have hn : n ≤ 1048577 := by unfold timerSz at hs; omega
  clear h hl hcm
  go_enter Try.func27, Try.ntmps27
  go_wp2_with fail
  refine (iTimers_any A n cc w.heap.size l _ HH.out (Nat.le_refl _) hs).mono ?_
  rintro e w1 ⟨rfl, b⟩
  have B := Lib.hid b
  cases hok : timersB l
  case false =>
    have HD := Lib.hid (show nextM l = (0, false) by unfold nextM; rw [hok]; rfl)
    clear hok hel b
    go_wp2
    go_ret2
    exact ⟨by rw [HD.out]; rfl, B.out⟩
  case true =>
    by_cases h0 : n = 0
    case pos =>
      subst h0
      have HD := Lib.hid (show nextM l = (0, false) by
        unfold nextM
        rw [if_pos hok, List.eq_nil_of_length_eq_zero HL.out])
      clear hok hel b
      go_wp2
      go_ret2
      exact ⟨by rw [HD.out]; rfl, B.out⟩
    case neg =>
      obtain ⟨b0, off, rfl, hb, hc⟩ := hel (by omega)
      have h0l : 0 < l.length := by have := HL.out; omega
      have cs1 := (b.cell (p := ⟨b0, off + 0 * 2 + 1, none⟩) (show b0 < _ by omega)).trans (hc 0 h0l).2
      obtain ⟨x1, hx1⟩ : ∃ q : Int, q = (l[0]'h0l).due := ⟨_, rfl⟩
      rw [← hx1] at cs1
      have HD := Lib.hid (show nextM l = (x1, true) by
        unfold nextM
        rw [if_pos hok]
        cases l with
        | nil => simp at h0l
        | cons y ys => rw [hx1]; rfl)
      have cs1' : w1.cell? ⟨b0, off + 1, none⟩ = some (.int .i64 x1) := by simpa using cs1
      have hp : 0 < n := by omega
      have hnz : ¬ ((n : Int) = 0) := by omega
      clear hok hel b cs1 hx1 hc
      go_wp2
      go_ret2
      exact ⟨by rw [HD.out]; rfl, B.out⟩

/-- A new slice of timers and a bool are handed back; what was there is as it was. -/
def MadeTB (w : World) (r : List TimerM × Bool) (e : Ending) (w' : World) : Prop :=
  ∃ A n c, e = .returned (.tuple #[.slice A n c, .bool r.2]) ∧ Has w' w.heap.size [timerD r.1] [.slice A n c] ∧ Below w.heap.size w w'
theorem has_nilT (w : World) (base : Nat) : Has w base [timerD []] [.slice none 0 0] := by
  have h1 := World.ownsRow_nil w 0 64 2
  have := Ow.of_lst (e := 64) (k := 2) (f := timerC) (l := []) h1 .nil
  exact ⟨_, this, by simp [Value.ownBlock], by simp [Value.ownBlock]⟩
theorem has_emptyT (w : World) : Has (w.alloc (.cells #[] 64)) w.heap.size [timerD []] [.slice (some ⟨w.heap.size, 0, none⟩) 0 0] :=
  ⟨_, ow_empty w, by simp, by simp⟩
theorem has_len {w : World} {base n c : Nat} {A : Option Addr} {l : List TimerM} (h : Has w base [timerD l] [.slice A n c]) : l.length = n := by
  obtain ⟨_, _, _, e, hl, _⟩ := h.rd.timers
  injection e with e1 e2 e3
  rw [hl, e2]

set_option maxHeartbeats 3200000 in
theorem sTOff_any (A : Option Addr) (n cc : Nat) (l : List TimerM) (x : Int) (w : World) (h : Rd w w.heap.size [timerD l] [.slice A n cc]) (hs : timerSz l ≤ 1048577) :
    Calls Try.prog 48 #[.slice A n cc, .int .i64 x] w (MadeTB w (timerOffM l x)) := by
  have HH := Lib.hid h
  obtain ⟨_, _, _, e, hl, _, hcm, hel⟩ := h.timers
  injection e with e1 e2 e3
  subst e1 e2 e3
  have hn : n ≤ 1048577 := by unfold timerSz at hs; omega
  go_enter Try.func48, Try.ntmps48
  go_wp2_with fail
  refine (sTimers_any A n cc w.heap.size l _ h (Nat.le_refl _) hs).mono ?_
  rintro e w1 ⟨rfl, b⟩
  have B := Lib.hid b
  cases hok : timersB l
  case false =>
    have HD := Lib.hid (show timerOffM l x = ([], false) by unfold timerOffM; rw [hok]; rfl)
    have H := Lib.hid ((has_emptyT w1).up B.out.size)
    have C := Lib.hid (B.out.alloc B.out.size (.cells #[] 64))
    clear hok hel b hl h
    go_wp2
    go_ret2
    exact ⟨_, _, _, by rw [HD.out]; rfl, by rw [HD.out]; exact H.out, C.out⟩
  case true =>
    have HD := Lib.hid (show timerOffM l x = (offM l x, hasId l x) by unfold timerOffM; rw [if_pos hok])
    clear hok
    go_wp2_with fail
    refine (sOff_any A n cc w.heap.size l x _ (h.keep b) b.size hs).mono ?_
    rintro e w2 ⟨G, m, gc, rfl, o, b2⟩
    have b3 := b.trans (b2.mono b.size)
    have H := Lib.hid (o.up b.size)
    have C := Lib.hid b3
    go_wp2_with fail
    refine (sAt_any A n cc l x _ (by omega) hn (fun hp => ?_)).mono ?_
    · obtain ⟨b0, off, rfl, hb, hc⟩ := hel hp
      exact ⟨b0, off, rfl, fun q hq => (b3.cell (p := ⟨b0, off + q * 2, none⟩) (show b0 < _ by omega)).trans (hc q hq).1⟩
    rintro e _ ⟨rfl, rfl⟩
    have hat : decide (0 ≤ atId (l.take n) x) = hasId l x := by rw [List.take_of_length_le (by omega), atId_has]
    generalize atId (l.take n) x = z at *
    have HT := Lib.hid hat
    clear hat b b2 b3 o h hel hl
    go_wp2
    go_ret2
    exact ⟨_, _, _, by rw [HD.out, ← HT.out]; rfl, by rw [HD.out]; exact H.out, C.out⟩

set_option maxHeartbeats 3200000 in
theorem iTOff_any (A : Option Addr) (n cc : Nat) (l : List TimerM) (x : Int) (w : World) (h : Rd w w.heap.size [timerD l] [.slice A n cc]) (hs : timerSz l ≤ 1048577) :
    Calls Try.prog 24 #[.slice A n cc, .int .i64 x] w (MadeTB w (timerOffM l x)) := by
  have HH := Lib.hid h
  obtain ⟨_, _, _, e, hl, _, hcm, _⟩ := h.timers
  injection e with e1 e2 e3
  subst e1 e2 e3
  have hn : n ≤ 1048577 := by unfold timerSz at hs; omega
  go_enter Try.func24, Try.ntmps24
  go_wp2_with fail
  refine (iTimers_any A n cc w.heap.size l _ h (Nat.le_refl _) hs).mono ?_
  rintro e w1 ⟨rfl, b⟩
  cases hok : timersB l
  case false =>
    have HD := Lib.hid (show timerOffM l x = ([], false) by unfold timerOffM; rw [hok]; rfl)
    have H := Lib.hid (has_nilT w1 w.heap.size)
    have C := Lib.hid b
    clear hok b hl h
    go_wp2
    go_ret2
    exact ⟨_, _, _, by rw [HD.out]; rfl, by rw [HD.out]; exact H.out, C.out⟩
  case true =>
    have HD := Lib.hid (show timerOffM l x = (offM l x, hasId l x) by unfold timerOffM; rw [if_pos hok])
    clear hok
    go_wp2_with fail
    refine (iTimersOf_any A n cc _).mono ?_
    rintro e w2 ⟨rfl, b2⟩
    have b3 := b.trans (b2.mono b.size)
    go_wp2_with fail
    refine (iOff_any A n cc w.heap.size l x _ (h.keep b3) b3.size hs).mono ?_
    rintro e w3 ⟨G, m, gc, rfl, o, b4⟩
    have hm := has_len o
    have b5 := b3.trans (b4.mono b3.size)
    have H := Lib.hid (o.up b3.size)
    have C := Lib.hid b5
    have HT := Lib.hid (show decide ((m : Int) < (n : Int)) = hasId l x by
      rw [hasId_off, hm, hl]
      exact decide_eq_decide.2 (by omega))
    clear b b2 b3 b4 b5 o h hl hm
    go_wp2
    go_ret2
    refine ⟨_, _, _, ?_, by rw [HD.out]; exact H.out, C.out⟩
    rw [HD.out]
    have := HT.out
    first | (rw [← this]; rfl) | (simp only [← this]; simp)

theorem sDueIn_at (A0 : Option Addr) (n0 c0 : Nat) (d : List TimerM) (x : Int) (w : World) (h : Rd w w.heap.size [timerD d] [.slice A0 n0 c0]) (hs : timerSz d ≤ 1048576) :
    Calls Try.prog 49 #[.slice A0 n0 c0, .int .i64 x] w fun e w' => ∃ (A : Option Addr) (n c : Nat), e = .returned (.slice A n c) ∧ Has w' w.heap.size (rowCells (dueM d x)) [.slice A n c] ∧ Below w.heap.size w w' :=
  sDue_any A0 n0 c0 d x w h (by omega)
theorem sNextDue_at (A0 : Option Addr) (n0 c0 : Nat) (d : List TimerM) (w : World) (h : Rd w w.heap.size [timerD d] [.slice A0 n0 c0]) (hs : timerSz d ≤ 1048576) :
    Calls Try.prog 50 #[.slice A0 n0 c0] w fun e w' => e = .returned (.tuple #[.int .i64 (nextM d).1, .bool (nextM d).2]) ∧ Below w.heap.size w w' :=
  sNext_any A0 n0 c0 d w h (by omega)
theorem sTimerOff_at (A0 : Option Addr) (n0 c0 : Nat) (d : List TimerM) (x : Int) (w : World) (h : Rd w w.heap.size [timerD d] [.slice A0 n0 c0]) (hs : timerSz d ≤ 1048576) :
    Calls Try.prog 48 #[.slice A0 n0 c0, .int .i64 x] w fun e w' => ∃ (A : Option Addr) (n c : Nat), e = .returned (.tuple #[.slice A n c, .bool (timerOffM d x).2]) ∧ Has w' w.heap.size [timerD (timerOffM d x).1] [.slice A n c] ∧ Below w.heap.size w w' :=
  sTOff_any A0 n0 c0 d x w h (by omega)
theorem sTimersOk_at (A0 : Option Addr) (n0 c0 : Nat) (d : List TimerM) (w : World) (h : Rd w w.heap.size [timerD d] [.slice A0 n0 c0]) (hs : timerSz d ≤ 1048576) :
    Calls Try.prog 42 #[.slice A0 n0 c0] w fun e w' => e = .returned (.bool (timersB d)) ∧ Below w.heap.size w w' :=
  sTimers_any A0 n0 c0 _ d w h (Nat.le_refl _) (by omega)
theorem iDueIn_at (A0 : Option Addr) (n0 c0 : Nat) (d : List TimerM) (x : Int) (w : World) (h : Rd w w.heap.size [timerD d] [.slice A0 n0 c0]) (hs : timerSz d ≤ 1048576) :
    Calls Try.prog 26 #[.slice A0 n0 c0, .int .i64 x] w fun e w' => ∃ (A : Option Addr) (n c : Nat), e = .returned (.slice A n c) ∧ Has w' w.heap.size (rowCells (dueM d x)) [.slice A n c] ∧ Below w.heap.size w w' :=
  iDue_any A0 n0 c0 d x w h (by omega)
theorem iNextDue_at (A0 : Option Addr) (n0 c0 : Nat) (d : List TimerM) (w : World) (h : Rd w w.heap.size [timerD d] [.slice A0 n0 c0]) (hs : timerSz d ≤ 1048576) :
    Calls Try.prog 27 #[.slice A0 n0 c0] w fun e w' => e = .returned (.tuple #[.int .i64 (nextM d).1, .bool (nextM d).2]) ∧ Below w.heap.size w w' :=
  iNext_any A0 n0 c0 d w h (by omega)
theorem iTimerOff_at (A0 : Option Addr) (n0 c0 : Nat) (d : List TimerM) (x : Int) (w : World) (h : Rd w w.heap.size [timerD d] [.slice A0 n0 c0]) (hs : timerSz d ≤ 1048576) :
    Calls Try.prog 24 #[.slice A0 n0 c0, .int .i64 x] w fun e w' => ∃ (A : Option Addr) (n c : Nat), e = .returned (.tuple #[.slice A n c, .bool (timerOffM d x).2]) ∧ Has w' w.heap.size [timerD (timerOffM d x).1] [.slice A n c] ∧ Below w.heap.size w w' :=
  iTOff_any A0 n0 c0 d x w h (by omega)
theorem iTimersOk_at (A0 : Option Addr) (n0 c0 : Nat) (d : List TimerM) (w : World) (h : Rd w w.heap.size [timerD d] [.slice A0 n0 c0]) (hs : timerSz d ≤ 1048576) :
    Calls Try.prog 28 #[.slice A0 n0 c0] w fun e w' => e = .returned (.bool (timersB d)) ∧ Below w.heap.size w w' :=
  iTimers_any A0 n0 c0 _ d w h (Nat.le_refl _) (by omega)

end Go.Proofs.Ythekcaahkokjfaa

/-
  The model's draws of chapter 2: some generator and numbers, or some generator and a row; nothing but the cursor and new memory is written.
-/
import Derived.Test.YtbpefenbpfaeaaaDicS
import Derived.Test.YtbpefenbpfaeaaaDrawR
import Derived.Test.YtbpefenbpfaeaaaDrawNew
import Derived.Deep.RegionWith
namespace Go.Proofs.Ytbpefenbpfaeaaa
open Go.RowKit

theorem Box.kept {w w' : World} {p : Nat} {x : Int} {row : Option Nat} (h : Box w p x) (g : w.grownBy w' row) (hr : ∀ k, row = some k → k ≠ p) : Box w' p x := by
  have hlt := h.lt
  unfold Box at *
  rw [g.block p hlt (fun e => hr p e.symm rfl)]
  exact h

theorem Box.drew_ {w : World} {p : Nat} {x : Int} (h : Box w p x) : Box w.drew p x := h
theorem Cur.drew_ {w : World} {B p : Nat} (h : Cur w B p) : Cur w.drew B p := h

/-- Some generator is handed back; nothing but the cursor p is written. -/
def RollsD (w : World) (B p : Nat) (e : Ending) (w' : World) : Prop :=
  ∃ x : Int, e = .returned (.agg #[.int .i64 x]) ∧ Cur w' B p ∧ w.grownBy w' (some p)

set_option maxHeartbeats 800000 in
theorem l2Draw_any (B p : Nat) (w : World) (h : Cur w B p) :
    Calls Try.prog 34 #[.pointer (some ⟨p, 0, none⟩)] w (RollsD w B p) := by
  have hp := h.lt
  have h0 := cur_alloc h (.cells #[.int .i64 0] 25)
  have x0 := Box.new w 0
  have g0 := World.grownBy_alloc w (.cells #[.int .i64 0] 25) (some p)
  clear h
  go_enter Try.func34, Try.ntmps34
  go_wp2_with fail
  refine (once_any B p _ h0 6 (by omega) (by omega)).mono ?_
  rintro e w1 ⟨b, rfl, c1, g1⟩
  have x1 := x0.kept g1 (fun k hk => by injection hk with hk; omega)
  have g01 := g0.trans g1
  clear h0 x0 g0 g1
  cases b
  · go_wp2_with fail
    refine (below_any B p _ c1 999999937 (by omega) (by omega)).mono ?_
    rintro e w2 ⟨x, _, rfl, c2, g2⟩
    have x2 := x1.kept g2 (fun k hk => by injection hk with hk; omega)
    have cx := x2.cell
    have fx := x2.free
    have C := Lib.hid (c2.kept (grown_setCell w2 w.heap.size 0 (.int .i64 x)) (fun k hk => by injection hk with hk; omega))
    have G := Lib.hid ((g01.trans g2).andThen (grown_setCell w2 w.heap.size 0 (.int .i64 x)) (fun j hj => by injection hj with hj; left; omega))
    clear x1 x2 g01 g2 c1 c2
    go_wp2
    refine bodyPost_ret (v := .agg #[.int .i64 x]) (by simp [results, Try.results34, go_sem, cx]) rfl ⟨x, rfl, C.out, G.out⟩
  · go_wp2_with fail
    refine (num_any B p _ c1 999999936 (by omega) (by omega)).mono ?_
    rintro e w2 ⟨x, _, rfl, c2, g2⟩
    have x2 := x1.kept g2 (fun k hk => by injection hk with hk; omega)
    have cx := x2.cell
    have fx := x2.free
    have C := Lib.hid (c2.kept (grown_setCell w2 w.heap.size 0 (.int .i64 x)) (fun k hk => by injection hk with hk; omega))
    have G := Lib.hid ((g01.trans g2).andThen (grown_setCell w2 w.heap.size 0 (.int .i64 x)) (fun j hj => by injection hj with hj; left; omega))
    clear x1 x2 g01 g2 c1 c2
    go_wp2
    refine bodyPost_ret (v := .agg #[.int .i64 x]) (by simp [results, Try.results34, go_sem, cx]) rfl ⟨x, rfl, C.out, G.out⟩

/-- A generator and two numbers are handed back; what was there is as it was. -/
def DrawnDNN (w : World) (e : Ending) (w' : World) : Prop :=
  ∃ s m n : Int, e = .returned (.tuple #[.agg #[.int .i64 s], .int .i64 m, .int .i64 n]) ∧ Below w.heap.size w w'

set_option maxHeartbeats 1600000 in
theorem drawSpread_any (A : Option Addr) (n c : Nat) (w : World) (h : BRow w w.heap.size A n) (hn : n ≤ 4096) :
    Calls Try.prog 12 #[.slice A n c] w (DrawnDNN w) := by
  obtain ⟨w0, hw0⟩ : ∃ w0, w0 = w.alloc (.cells #[.int .i64 0] 25) := ⟨_, rfl⟩
  have x0 : Box w0 w.heap.size 0 := by rw [hw0]; exact Box.new w 0
  have b0 : Below w.heap.size w w0 := by rw [hw0]; exact new_lt _ _
  have z0 : w0.heap.size = w.heap.size + 1 := by rw [hw0]; simp
  have h0 := (h.below b0)
  have HW := Lib.hid hw0
  have Z0 := Lib.hid z0
  clear hw0 h z0
  go_enter Try.func12, Try.ntmps12
  go_wp2_with fail
  rw [← HW.out]
  refine (new_any A n c _ (by intro hp; obtain ⟨b, off, e, hb, hc⟩ := h0 hp; exact ⟨b, off, e, by have := Z0.out; omega, hc⟩) hn).mono ?_
  rintro e w1 ⟨rfl, c1, b1⟩
  have x1 := x0.below b1 x0.lt
  have c01 := b0.trans (b1.mono b0.size)
  have hlt := x1.lt
  have zc := c1.lt
  go_wp2_with fail
  refine (l2Draw_any _ _ _ c1).mono ?_
  rintro e w2 ⟨s, rfl, c2, g2⟩
  have z00 : w.heap.size < w0.heap.size := by have := Z0.out; omega
  have x2 := (x1.kept g2 (fun k hk => by injection hk with hk; omega)).alloc (.cells #[.int .i64 s] 25)
  have y2 := Box.new w2 s
  have cc2 := cur_alloc c2 (.cells #[.int .i64 s] 25)
  have b2 := (c01.grown g2 c01.size (fun k hk => by injection hk with hk; omega))
  have b2' := b2.alloc b2.size (.cells #[.int .i64 s] 25)
  have z12 := g2.size
  clear c1 c2 x0 x1 g2 c01 b0 b1 h0
  go_wp2_with fail
  generalize hv : w2.alloc (.cells #[.int .i64 s] 25) = v2 at *
  clear hv
  refine (num_any _ _ _ cc2 64 (by omega) (by omega)).mono ?_
  rintro e w3 ⟨m, _, rfl, c3, g3⟩
  have x3 := x2.kept g3 (fun k hk => by injection hk with hk; omega)
  have y3 := y2.kept g3 (fun k hk => by injection hk with hk; omega)
  have b3 := b2'.grown g3 b2'.size (fun k hk => by injection hk with hk; omega)
  clear x2 y2 cc2 g3 b2'
  go_wp2_with fail
  refine (once_any _ _ _ c3 4 (by omega) (by omega)).mono ?_
  rintro e w4 ⟨b4, rfl, c4, g4⟩
  have x4 := x3.kept g4 (fun k hk => by injection hk with hk; omega)
  have y4 := y3.kept g4 (fun k hk => by injection hk with hk; omega)
  have b04 := b3.grown g4 b3.size (fun k hk => by injection hk with hk; omega)
  clear x3 y3 c3 g4 b3
  cases b4
  · go_wp2_with fail
    refine (below_any _ _ _ c4 9 (by omega) (by omega)).mono ?_
    rintro e w5 ⟨m2, _, rfl, c5, g5⟩
    have x5 := x4.kept g5 (fun k hk => by injection hk with hk; omega)
    have y5 := y4.kept g5 (fun k hk => by injection hk with hk; omega)
    have b05 := b04.grown g5 b04.size (fun k hk => by injection hk with hk; omega)
    clear x4 y4 c4 g5 b04
    go_wp2_with fail
    refine (once_any _ _ _ c5 6 (by omega) (by omega)).mono ?_
    rintro e w6 ⟨b6, rfl, c6, g6⟩
    have x6 := x5.kept g6 (fun k hk => by injection hk with hk; omega)
    have y6 := y5.kept g6 (fun k hk => by injection hk with hk; omega)
    have b06 := b05.grown g6 b05.size (fun k hk => by injection hk with hk; omega)
    have cx6 := x6.cell
    have fx6 := x6.free
    have cy6 := y6.cell
    have z6 := x6.lt
    have X6 := Lib.hid x6
    have Y6 := Lib.hid y6
    have C6 := Lib.hid c6
    have B6 := Lib.hid b06
    clear x5 y5 c5 g6 b05 x6 y6 c6 b06
    cases b6
    · go_wp2_with fail
      go_region_with (first
        | (go_at_call 37
           refine (below_any w0.heap.size w0.heap.size _ ?_ 20 (by omega) (by omega)).mono ?_
           exact C6.out.drew_
           rintro e w7 ⟨q, ⟨q0, q1⟩, rfl, c7, g7⟩
           have x7 := X6.out.drew_.kept g7 (fun k hk => by injection hk with hk; omega)
           have y7 := Y6.out.drew_.kept g7 (fun k hk => by injection hk with hk; omega)
           have cx7 := x7.cell
           have fx7 := x7.free
           have cy7 := y7.cell
           have B7 := Lib.hid (B6.out.drew.grown g7 (by simp; omega) (fun k hk => by injection hk with hk; omega))
           clear x7 y7 c7 g7))
      all_goals
        go_wp2
        exact bodyPost_ret (v := .tuple #[.agg #[.int .i64 s], .int .i64 m2, .int .i64 (IntKind.i64.wrap (1 + q))]) (by simp [results, Try.results12, go_sem, cx7]) rfl ⟨s, m2, IntKind.i64.wrap (1 + q), rfl, (B7.out.setCell (p := ⟨w.heap.size, 0, none⟩) (Nat.le_refl _) _)⟩
    · go_wp2_with fail
      go_region_with (first
        | (go_at_call 35
           refine (num_any w0.heap.size w0.heap.size _ ?_ 1000000000 (by omega) (by omega)).mono ?_
           exact C6.out.drew_
           rintro e w7 ⟨q, _, rfl, c7, g7⟩
           have x7 := X6.out.drew_.kept g7 (fun k hk => by injection hk with hk; omega)
           have y7 := Y6.out.drew_.kept g7 (fun k hk => by injection hk with hk; omega)
           have cx7 := x7.cell
           have fx7 := x7.free
           have cy7 := y7.cell
           have B7 := Lib.hid (B6.out.drew.grown g7 (by simp; omega) (fun k hk => by injection hk with hk; omega))
           clear x7 y7 c7 g7))
      all_goals
        go_wp2
        exact bodyPost_ret (v := .tuple #[.agg #[.int .i64 s], .int .i64 m2, .int .i64 q]) (by simp [results, Try.results12, go_sem, cx7]) rfl ⟨s, m2, q, rfl, (B7.out.setCell (p := ⟨w.heap.size, 0, none⟩) (Nat.le_refl _) _)⟩

  · have c5 := c4
    have x5 := x4
    have y5 := y4
    have b05 := b04
    clear x4 y4 c4 b04
    go_wp2_with fail
    refine (once_any _ _ _ c5 6 (by omega) (by omega)).mono ?_
    rintro e w6 ⟨b6, rfl, c6, g6⟩
    have x6 := x5.kept g6 (fun k hk => by injection hk with hk; omega)
    have y6 := y5.kept g6 (fun k hk => by injection hk with hk; omega)
    have b06 := b05.grown g6 b05.size (fun k hk => by injection hk with hk; omega)
    have cx6 := x6.cell
    have fx6 := x6.free
    have cy6 := y6.cell
    have z6 := x6.lt
    have X6 := Lib.hid x6
    have Y6 := Lib.hid y6
    have C6 := Lib.hid c6
    have B6 := Lib.hid b06
    clear x5 y5 c5 g6 b05 x6 y6 c6 b06
    cases b6
    · go_wp2_with fail
      go_region_with (first
        | (go_at_call 37
           refine (below_any w0.heap.size w0.heap.size _ ?_ 20 (by omega) (by omega)).mono ?_
           exact C6.out.drew_
           rintro e w7 ⟨q, ⟨q0, q1⟩, rfl, c7, g7⟩
           have x7 := X6.out.drew_.kept g7 (fun k hk => by injection hk with hk; omega)
           have y7 := Y6.out.drew_.kept g7 (fun k hk => by injection hk with hk; omega)
           have cx7 := x7.cell
           have fx7 := x7.free
           have cy7 := y7.cell
           have B7 := Lib.hid (B6.out.drew.grown g7 (by simp; omega) (fun k hk => by injection hk with hk; omega))
           clear x7 y7 c7 g7))
      all_goals
        go_wp2
        exact bodyPost_ret (v := .tuple #[.agg #[.int .i64 s], .int .i64 m, .int .i64 (IntKind.i64.wrap (1 + q))]) (by simp [results, Try.results12, go_sem, cx7]) rfl ⟨s, m, IntKind.i64.wrap (1 + q), rfl, (B7.out.setCell (p := ⟨w.heap.size, 0, none⟩) (Nat.le_refl _) _)⟩
    · go_wp2_with fail
      go_region_with (first
        | (go_at_call 35
           refine (num_any w0.heap.size w0.heap.size _ ?_ 1000000000 (by omega) (by omega)).mono ?_
           exact C6.out.drew_
           rintro e w7 ⟨q, _, rfl, c7, g7⟩
           have x7 := X6.out.drew_.kept g7 (fun k hk => by injection hk with hk; omega)
           have y7 := Y6.out.drew_.kept g7 (fun k hk => by injection hk with hk; omega)
           have cx7 := x7.cell
           have fx7 := x7.free
           have cy7 := y7.cell
           have B7 := Lib.hid (B6.out.drew.grown g7 (by simp; omega) (fun k hk => by injection hk with hk; omega))
           clear x7 y7 c7 g7))
      all_goals
        go_wp2
        exact bodyPost_ret (v := .tuple #[.agg #[.int .i64 s], .int .i64 m, .int .i64 q]) (by simp [results, Try.results12, go_sem, cx7]) rfl ⟨s, m, q, rfl, (B7.out.setCell (p := ⟨w.heap.size, 0, none⟩) (Nat.le_refl _) _)⟩

/-- A generator and some row are handed back; what was there is as it was. -/
def DrawnDR (w : World) (e : Ending) (w' : World) : Prop :=
  ∃ (s : Int) (A : Option Addr) (n c : Nat) (xs : List Int), e = .returned (.tuple #[.agg #[.int .i64 s], .slice A n c]) ∧ Own w' w.heap.size A n c xs ∧ n ≤ 65 ∧ Below w.heap.size w w'

/-- A made row and a stored generator, in either order. -/
theorem made_two (w w7 : World) (b : Below w.heap.size w w7) (k : Nat) (s : Int) (x : Box w7 w.heap.size 0) (hk : k ≤ maxLen) :
    Own ((w7.alloc (.cells (madeCells #[.int .i64 0] k) 2)).setCell ⟨w.heap.size, 0, none⟩ (.int .i64 s)) w.heap.size (some ⟨w7.heap.size, 0, none⟩) k k (List.replicate k 0) ∧
    Below w.heap.size w ((w7.alloc (.cells (madeCells #[.int .i64 0] k) 2)).setCell ⟨w.heap.size, 0, none⟩ (.int .i64 s)) ∧
    Own ((w7.setCell ⟨w.heap.size, 0, none⟩ (.int .i64 s)).alloc (.cells (madeCells #[.int .i64 0] k) 2)) w.heap.size (some ⟨w7.heap.size, 0, none⟩) k k (List.replicate k 0) ∧
    Below w.heap.size w ((w7.setCell ⟨w.heap.size, 0, none⟩ (.int .i64 s)).alloc (.cells (madeCells #[.int .i64 0] k) 2)) ∧
    ((w7.setCell ⟨w.heap.size, 0, none⟩ (.int .i64 s)).alloc (.cells (madeCells #[.int .i64 0] k) 2)).cell? ⟨w.heap.size, 0, none⟩ = some (.int .i64 s) := by
  have hlt := x.lt
  have own : ∀ v : World, v.heap.size = w7.heap.size → Own (v.alloc (.cells (madeCells #[.int .i64 0] k) 2)) w7.heap.size (some ⟨w7.heap.size, 0, none⟩) k k (List.replicate k 0) := by
    intro v hv
    have h := World.ownsRow_lit (base := v.heap.size) (e := 2) (size := 1) v (madeCells #[.int .i64 0] k) k (Nat.le_refl _) hk (by rw [size_madeCells]; omega)
    rw [toList_madeCells_one, hv] at h
    simpa [Own, ivals] using h
  refine ⟨((own w7 rfl).kept (grown_setCell _ _ _ _) (fun j hj => by injection hj with hj; omega)).up (by omega), (b.alloc b.size _).setCell (p := ⟨w.heap.size, 0, none⟩) (Nat.le_refl _) _,
    (own _ (by simp)).up (by omega), (b.setCell (p := ⟨w.heap.size, 0, none⟩) (Nat.le_refl _) _).alloc (by simp; omega) _, ((x.set_ s).alloc _).cell⟩

theorem wrap_in (q : Int) (q0 : 0 ≤ q) (q1 : q < 2) : IntKind.i64.wrap (64 + q) = ((64 + q).toNat : Int) := by
  rw [IntWalk.i64_in _ (by omega)]
  omega

set_option maxHeartbeats 1600000 in
theorem drawShuf_any (A : Option Addr) (n c : Nat) (w : World) (h : BRow w w.heap.size A n) (hn : n ≤ 4096) :
    Calls Try.prog 17 #[.slice A n c] w (DrawnDR w) := by
  obtain ⟨w0, hw0⟩ : ∃ w0, w0 = w.alloc (.cells #[.int .i64 0] 25) := ⟨_, rfl⟩
  have x0 : Box w0 w.heap.size 0 := by rw [hw0]; exact Box.new w 0
  have b0 : Below w.heap.size w w0 := by rw [hw0]; exact new_lt _ _
  have z0 : w0.heap.size = w.heap.size + 1 := by rw [hw0]; simp
  have h0 := (h.below b0)
  have HW := Lib.hid hw0
  have Z0 := Lib.hid z0
  clear hw0 h z0
  go_enter Try.func17, Try.ntmps17
  go_wp2_with fail
  rw [← HW.out]
  refine (new_any A n c _ (by intro hp; obtain ⟨b, off, e, hb, hc⟩ := h0 hp; exact ⟨b, off, e, by have := Z0.out; omega, hc⟩) hn).mono ?_
  rintro e w1 ⟨rfl, c1, b1⟩
  have x1 := x0.below b1 x0.lt
  have c01 := b0.trans (b1.mono b0.size)
  have hlt := x1.lt
  have zc := c1.lt
  go_wp2_with fail
  refine (l2Draw_any _ _ _ c1).mono ?_
  rintro e w2 ⟨s, rfl, c2, g2⟩
  have z00 : w.heap.size < w0.heap.size := by have := Z0.out; omega
  have x2 := (x1.kept g2 (fun k hk => by injection hk with hk; omega)).alloc (.cells #[.int .i64 s] 25)
  have y2 := Box.new w2 s
  have cc2 := cur_alloc c2 (.cells #[.int .i64 s] 25)
  have b2 := (c01.grown g2 c01.size (fun k hk => by injection hk with hk; omega))
  have b2' := b2.alloc b2.size (.cells #[.int .i64 s] 25)
  have z12 := g2.size
  clear c1 c2 x0 x1 g2 c01 b0 b1 h0 b2
  go_wp2_with fail
  generalize hv : w2.alloc (.cells #[.int .i64 s] 25) = v2 at *
  clear hv
  refine (once_any _ _ _ cc2 12 (by omega) (by omega)).mono ?_
  rintro e w6 ⟨b6, rfl, c6, g6⟩
  have x6 := x2.kept g6 (fun k hk => by injection hk with hk; omega)
  have y6 := y2.kept g6 (fun k hk => by injection hk with hk; omega)
  have b06 := b2'.grown g6 b2'.size (fun k hk => by injection hk with hk; omega)
  have cx6 := x6.cell
  have fx6 := x6.free
  have cy6 := y6.cell
  have z6 := x6.lt
  have X6 := Lib.hid x6
  have Y6 := Lib.hid y6
  have C6 := Lib.hid c6
  have B6 := Lib.hid b06
  clear x2 y2 cc2 g6 b2' x6 y6 c6 b06
  cases b6
  · go_wp2_with fail
    go_region_with (first
      | (go_at_call 41
         refine (drawRow_any7 w0.heap.size w0.heap.size _ ?_).mono ?_
         exact C6.out.drew_
         rintro e w7 ⟨A7, n7, d7, xs, rfl, o7, hn7, c7, g7⟩
         have x7 := X6.out.drew_.kept g7 (fun k hk => by injection hk with hk; omega)
         have y7 := Y6.out.drew_.kept g7 (fun k hk => by injection hk with hk; omega)
         have cx7 := x7.cell
         have fx7 := x7.free
         have cy7 := y7.cell
         have B7 := Lib.hid (B6.out.drew.grown g7 (by simp; omega) (fun k hk => by injection hk with hk; omega))
         have O7 := Lib.hid (show Own w7 w6.heap.size A7 n7 d7 xs from o7)
         clear x7 y7 c7 g7 o7))
    all_goals
      go_wp2
      exact bodyPost_ret (v := .tuple #[.agg #[.int .i64 s], .slice A7 n7 d7]) (by simp [results, Try.results17, go_sem, cx7]) rfl ⟨s, A7, n7, d7, xs, rfl, (O7.out.kept (grown_setCell _ _ _ _) (fun k hk => by injection hk with hk; omega)).up (by omega), by omega, (B7.out.setCell (p := ⟨w.heap.size, 0, none⟩) (Nat.le_refl _) _)⟩
  · go_wp2_with fail
    go_region_with (first
      | (go_at_call 37
         refine (below_any w0.heap.size w0.heap.size _ ?_ 2 (by omega) (by omega)).mono ?_
         exact C6.out.drew_
         rintro e w7 ⟨q, ⟨q0, q1⟩, rfl, c7, g7⟩
         have x7 := X6.out.drew_.kept g7 (fun k hk => by injection hk with hk; omega)
         have y7 := Y6.out.drew_.kept g7 (fun k hk => by injection hk with hk; omega)
         have cx7 := x7.cell
         have fx7 := x7.free
         have cy7 := y7.cell
         have X7 := Lib.hid x7
         have B7 := Lib.hid (B6.out.drew.grown g7 (by simp; omega) (fun k hk => by injection hk with hk; omega))
         have K7 := Lib.hid (wrap_in q q0 q1)
         have hmk := run_make_row' (P := Try.prog) 28 2 (.int .i64 0) 8 Try.underlying28 info64 rfl .i64 .i64 (64 + q).toNat (by omega) (by omega)
         rw [← K7.out] at hmk
         have cxA : ∀ o, (w7.alloc o).cell? ⟨w.heap.size, 0, none⟩ = some (.int .i64 0) := fun o => (x7.alloc o).cell
         have fxA : ∀ o, (w7.alloc o).frozen? ⟨w.heap.size, 0, none⟩ = false := fun o => ((new_lt w7 o).frozen (p := ⟨w.heap.size, 0, none⟩) x7.lt).trans fx7
         have cyA : ∀ o, (w7.alloc o).cell? ⟨w2.heap.size, 0, none⟩ = some (.int .i64 s) := fun o => (y7.alloc o).cell
         have F7 := Lib.hid (made_two w w7 B7.out (64 + q).toNat s x7 (by simp only [maxLen]; omega))
         have q65 : (64 + q).toNat ≤ 65 := by omega
         clear x7 y7 c7 g7))
    all_goals
      go_wp2
      first
        | exact bodyPost_ret (v := .tuple #[.agg #[.int .i64 s], .slice (some ⟨w7.heap.size, 0, none⟩) (64 + q).toNat (64 + q).toNat]) (by simp [results, Try.results17, go_sem, cxA]) rfl ⟨s, _, _, _, _, rfl, F7.out.1, q65, F7.out.2.1⟩
        | exact bodyPost_ret (v := .tuple #[.agg #[.int .i64 s], .slice (some ⟨w7.heap.size, 0, none⟩) (64 + q).toNat (64 + q).toNat]) (by simp [results, Try.results17, go_sem, F7.out.2.2.2.2]) rfl ⟨s, _, _, _, _, rfl, F7.out.2.2.1, q65, F7.out.2.2.2.1⟩

end Go.Proofs.Ytbpefenbpfaeaaa

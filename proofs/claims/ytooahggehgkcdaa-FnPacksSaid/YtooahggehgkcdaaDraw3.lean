/-
  The model's draws of packed and unpacked rows: some slice of rows, or some row, in new memory.
-/
import Derived.Test.YtooahggehgkcdaaDraw2
import Derived.Test.YtooahggehgkcdaaUnpS
import Derived.Test.YtooahggehgkcdaaPack
namespace Go.Proofs.Ytooahggehgkcdaa
open Go.RowKit

theorem tot_push (xss : List (List Int)) (r : List Int) : tot (xss ++ [r]) = tot xss + 1 + r.length := by
  unfold tot lensTo
  rw [List.take_length, List.take_length, List.map_append, List.sum_append, List.length_append]
  simp
  omega

theorem BRow.up_ {w : World} {B B' : Nat} {A : Option Addr} {n : Nat} (h : BRow w B A n) (hB : B ≤ B') : BRow w B' A n := by
  intro hn
  obtain ⟨b, off, rfl, hlt, hc⟩ := h hn
  exact ⟨b, off, rfl, by omega, hc⟩

/-- Some rows in new memory are handed back. -/
def DrawnRows (w : World) (e : Ending) (w' : World) : Prop :=
  ∃ G k d xss, e = .returned (.slice G k d) ∧ SOwn w' w.heap.size w'.heap.size G k d xss ∧ tot xss ≤ 400 ∧ Below w.heap.size w w'

theorem sown_nils (w : World) (n top : Nat) (hn : n ≤ maxLen) : SOwn (w.alloc (.cells (madeCells #[.slice none 0 0] n) 24)) w.heap.size top (some ⟨w.heap.size, 0, none⟩) n n (List.replicate n []) := by
  have h := World.ownsRow_lit (base := w.heap.size) (e := 24) (size := 1) w (madeCells #[.slice none 0 0] n) n (Nat.le_refl _) hn (by rw [size_madeCells]; omega)
  rw [toList_madeCells_one] at h
  have hg : ∀ j, (List.replicate n (Value.slice none 0 0)).getD j (.slice none 0 0) = .slice none 0 0 := by
    intro j
    by_cases hj : j < n
    · simp [List.getD, hj]
    · simp [List.getD, List.getElem?_eq_none (show (List.replicate n (Value.slice none 0 0)).length ≤ j by simp; omega)]
  refine ⟨_, h, by simp, fun j hj => ⟨none, 0, 0, by simp [hj], ?_⟩, fun i j _ _ p hp => ?_, fun j _ p hp => ?_⟩
  · have e : (List.replicate n ([] : List Int)).getD j [] = [] := by simp [List.getD, hj]
    rw [e]
    exact World.ownsRow_nil _ _ _ _
  · rw [hg] at hp; cases hp
  · rw [hg] at hp; cases hp

theorem tot_nils (n : Nat) : tot (List.replicate n []) = n := by
  unfold tot lensTo
  rw [List.length_replicate, List.take_of_length_le (by simp), List.map_replicate]
  simp

set_option maxHeartbeats 3200000 in
theorem drawPacked_any (A : Option Addr) (n c : Nat) (w : World) (h : BRow w w.heap.size A n) (hn : n ≤ 4096) :
    Calls Try.prog 20 #[.slice A n c] w (DrawnRows w) := by
  go_enter Try.func20, Try.ntmps20
  go_wp2_with fail
  refine (new_any A n c _ h hn).mono ?_
  rintro e w1 ⟨rfl, c1, b1⟩
  have lt1 := c1.lt
  have c1' := cur_alloc c1 (.cells #[] 24)
  have S1 := (sown_empty w1 (w1.alloc (.cells #[] 24)).heap.size).up (base' := w.heap.size + 1) lt1
  have B1 := b1.alloc b1.size (.cells #[] 24)
  clear c1
  go_wp2_with fail
  refine (below_any _ _ _ c1' 6 (by omega) (by omega)).mono ?_
  rintro e w2 ⟨x, ⟨x0, x1⟩, rfl, c2, g2⟩
  obtain ⟨q, rfl⟩ := Int.eq_ofNat_of_zero_le x0
  have B2 := Lib.hid (B1.grown g2 B1.size (fun k hk => by injection hk with hk; omega))
  have S2 := Lib.hid ((S1.kept g2 (fun k hk => by injection hk with hk; omega)).top_up g2.size)
  have C2 := Lib.hid c2
  clear c1' S1 B1 c2 g2 b1
  go_wp2
  go_loopw [4, 5] (fun r i wr => ∃ (k m d : Nat) (G : Option Addr) (xss : List (List Int)), i = .int .i64 (k : Int) ∧ m + k ≤ 5 ∧ r = .slice G m d ∧ SOwn wr (w.heap.size + 1) wr.heap.size G m d xss ∧ tot xss ≤ 51 * m ∧ Cur wr w.heap.size w.heap.size ∧ Below w.heap.size w wr) (fun _ i _ => (intOf i).toNat)
  case atStart => exact ⟨q, 0, 0, _, [], rfl, by omega, rfl, S2.out, by simp [tot, lensTo], C2.out, B2.out⟩
  case round =>
    obtain ⟨k, m, d, G, xss, rfl, hmk, rfl, hown, htot, hcur, hbel⟩ := hrel
    clear S2 C2 B2
    have z := hcur.lt
    rcases k with _ | k
    · have f0 : ¬ ((0 : Int) < 0) := by omega
      go_wp2_with fail
      refine (once_any _ _ _ hcur 12 (by omega) (by omega)).mono ?_
      rintro e w3 ⟨b, rfl, c3, g3⟩
      have b3 := hbel.grown g3 hbel.size (fun k hk => by injection hk with hk; omega)
      have s3 := (hown.kept g3 (fun k hk => by injection hk with hk; omega)).top_up g3.size
      clear hown hcur hbel g3
      cases b
      · go_wp2
        go_ret
        exact ⟨G, m, d, xss, rfl, s3.up (by omega), by omega, b3⟩
      · go_wp2_with fail
        refine (from_any _ _ _ c3 (-2) 1 (by omega) (by omega) (by omega)).mono ?_
        rintro e w4 ⟨y, ⟨y0, y1⟩, rfl, c4, g4⟩
        have b4 := b3.grown g4 b3.size (fun k hk => by injection hk with hk; omega)
        obtain ⟨t, ht⟩ := Int.eq_ofNat_of_zero_le (show 0 ≤ 48 + y by omega)
        have hmk2 := run_make_row' (P := Try.prog) 35 24 (.slice none 0 0) 24 Try.underlying35 infoRow rfl .i64 .i64 t (by omega) (by omega)
        rw [← ht] at hmk2
        have t49 : t ≤ 49 := by omega
        have HS := Lib.hid (sown_nils w4 t (w4.alloc (.cells (madeCells #[.slice none 0 0] t) 24)).heap.size (by simp only [maxLen]; omega))
        have HB := Lib.hid (b4.alloc b4.size (.cells (madeCells #[.slice none 0 0] t) 24))
        have HZ := Lib.hid b4.size
        clear s3 c3 b3 c4 g4 b4 ht
        go_wp2
        go_ret
        exact ⟨_, t, t, _, rfl, HS.out.up HZ.out, by rw [tot_nils]; omega, HB.out⟩
    · have i0 : (0 : Int) < (k : Int) + 1 := by omega
      go_wp2_with fail
      refine (drawAny_any _ _ _ hcur).mono ?_
      rintro e w3 ⟨A3, n3, c3, ys, rfl, o3, hn3, cc3, g3⟩
      have zz := g3.size
      have s3 := hown.kept g3 (fun p hp => by injection hp with hp; omega)
      have ln3 := o3.len
      obtain ⟨w4, hw4⟩ : ∃ w4, w4 = w3.alloc (.cells #[.slice A3 n3 c3] 24) := ⟨_, rfl⟩
      have b4 : Below w3.heap.size w3 w4 := by rw [hw4]; exact (Below.refl _ _).alloc (Nat.le_refl _) _
      have hN : w4.cell? ⟨w3.heap.size, 0, none⟩ = some (.slice A3 n3 c3) := by rw [hw4]; simp
      have S4 := s3.below b4
      have O4 := (o3.up (base' := w.heap.size + 1) z).below b4
      have hnew : ∀ p, (Value.slice A3 n3 c3).ownBlock = some p → wr.heap.size ≤ p ∧ p < w3.heap.size := fun p hp => o3.ge p hp
      have B4 := Lib.hid ((hbel.grown g3 hbel.size (fun p hp => by injection hp with hp; omega)).trans (b4.mono (by omega)))
      have C4 := Lib.hid (cc3.below b4)
      have z4 := b4.size
      have htt : tot (xss ++ [ys]) ≤ 51 * (m + 1) := by rw [tot_push, ln3]; omega
      rw [hw4] at hN S4 O4 B4 C4 z4
      have HTT := Lib.hid htt
      clear hw4 b4 o3 g3 cc3 hown s3 hcur hbel ln3 htt htot
      go_wp2_with (first
        | (at_builtin
           refine wpList_append_row rfl (.tmp 15) (.tmp 18) rfl rfl S4 rfl hN O4 hnew zz (by omega) (by omega) ?_
           intro G5 d5 w5 S5 g5 ge5
           have C5 := Lib.hid (C4.out.kept g5 (fun p hp => by have := ge5 p hp; omega))
           have B5 := Lib.hid (B4.out.grown g5 (by omega) (fun p hp => by have := ge5 p hp; omega))
           have z5 := g5.size))
      have S6 : SOwn w5 (w.heap.size + 1) w5.heap.size G5 (m + 1) d5 (xss ++ [ys]) := S5.top_up (by omega)
      go_roundw
      case rel => exact ⟨k, m + 1, d5, G5, xss ++ [ys], by go_num, by omega, rfl, S6, HTT.out, C5.out, B5.out⟩
      case measure => simp [intOf]

/-- Some row in new memory is handed back. -/
def SomeRow (w : World) (e : Ending) (w' : World) : Prop :=
  ∃ A n c xs, e = .returned (.slice A n c) ∧ Own w' w.heap.size A n c xs ∧ n ≤ 50 ∧ Below w.heap.size w w'

theorem own_put {w : World} {base g n c : Nat} {xs : List Int} (o : Own w base (some ⟨g, 0, none⟩) n c xs) (j : Nat) (y : Int) : Own (w.setCell ⟨g, j, none⟩ (.int .i64 y)) base (some ⟨g, 0, none⟩) n c (xs.set j y) := by
  have h := (World.ownsRow.stored o j (.int .i64 y)).1
  have e : (ivals xs).set j (.int .i64 y) = ivals (xs.set j y) := by simp [ivals, List.map_set]
  rw [e] at h
  exact h

set_option maxHeartbeats 3200000 in
theorem drawUnpacked_any (A : Option Addr) (n c : Nat) (w : World) (h : BRow w w.heap.size A n) (hn : n ≤ 4096) :
    Calls Try.prog 24 #[.slice A n c] w (SomeRow w) := by
  go_enter Try.func24, Try.ntmps24
  go_wp2_with fail
  refine (new_any A n c _ h hn).mono ?_
  rintro e w1 ⟨rfl, c1, b1⟩
  have lt1 := c1.lt
  go_wp2_with fail
  refine (drawPacked_any A n c _ ((h.below b1).up_ b1.size) hn).mono ?_
  rintro e w2 ⟨G, k, d, xss, rfl, s2, ht, b12⟩
  have c2 := c1.below b12
  have b2 := b1.trans (b12.mono b1.size)
  have z2 := b12.size
  go_wp2_with fail
  refine (sPack_any G k d xss _ s2.srow (by omega)).mono ?_
  rintro e w3 ⟨A3, n3, d3, rfl, o3, b23⟩
  have hn3 : n3 ≤ 48 := by rw [← o3.len]; exact packed_len xss
  have c3 := c2.below b23
  have b3 := b2.trans (b23.mono b2.size)
  generalize packed xss = ys at o3
  clear s2 c1 c2 b1 b12 b2 b23 h
  go_wp2_with fail
  refine (once_any _ _ _ c3 3 (by omega) (by omega)).mono ?_
  rintro e w4 ⟨b4, rfl, c4, g4⟩
  have o4 := o3.kept g4 (fun k hk => by injection hk with hk; omega)
  have b04 := b3.grown g4 b3.size (fun k hk => by injection hk with hk; omega)
  clear o3 c3 b3 g4
  by_cases hyes : b4 = true ∧ 0 < n3
  · obtain ⟨rfl, hpos⟩ := hyes
    obtain ⟨g, rfl, hg, hg'⟩ := o4.at_ hpos
    have i0 : (0 : Int) < (n3 : Int) := by omega
    go_wp2_with fail
    refine (below_any _ _ _ c4 (n3 : Int) (by omega) (by omega)).mono ?_
    rintro e w5 ⟨x, ⟨x0, x1⟩, rfl, c5, g5⟩
    obtain ⟨j, rfl⟩ := Int.eq_ofNat_of_zero_le x0
    go_wp2_with fail
    refine (below_any _ _ _ c5 6 (by omega) (by omega)).mono ?_
    rintro e w6 ⟨y, _, rfl, c6, g6⟩
    have g46 := g5.trans g6
    have o6 := o4.kept g46 (fun k hk => by injection hk with hk; omega)
    have hj : j < n3 := by omega
    have hold := o6.cell hj
    generalize ys.getD j 0 = v at hold
    have hfr : w6.frozen? ⟨g, j, none⟩ = false := World.ownsRow.frozenAt o6 j
    have O7 := Lib.hid (own_put o6 j y)
    have B7 := Lib.hid ((b04.grown g46 b04.size (fun k hk => by injection hk with hk; omega)).setCell (p := ⟨g, j, none⟩) (by show w.heap.size ≤ g; omega) (.int .i64 y))
    have C7 := Lib.hid (c6.kept (grown_setCell w6 g j (.int .i64 y)) (fun k hk => by injection hk with hk; omega))
    clear o4 c4 c5 c6 g5 g6 g46 o6 b04
    go_wp2_with fail
    refine (once_any _ _ _ C7.out 6 (by omega) (by omega)).mono ?_
    rintro e w8 ⟨b8, rfl, c8, g8⟩
    have b08 := B7.out.grown g8 B7.out.size (fun k hk => by injection hk with hk; omega)
    have o8 := O7.out.kept g8 (fun k hk => by injection hk with hk; omega)
    cases b8
    · go_wp2
      go_ret
      exact ⟨_, n3, d3, _, rfl, o8.up (by omega), by omega, b08⟩
    · go_wp2_with fail
      refine (drawAny_any _ _ _ c8).mono ?_
      rintro e w9 ⟨A9, n9, c9, zs, rfl, o9, hn9, _, g9⟩
      go_wp2
      go_ret
      exact ⟨A9, n9, c9, zs, rfl, o9.up b08.size, hn9, b08.grown g9 b08.size (fun k hk => by injection hk with hk; omega)⟩
  · have hcase : b4 = false ∨ n3 = 0 := by
      cases b4
      · exact .inl rfl
      · right
        rcases Nat.eq_zero_or_pos n3 with h0 | h0
        · exact h0
        · exact absurd ⟨rfl, h0⟩ hyes
    clear hyes
    rcases hcase with rfl | rfl
    · go_wp2_with fail
      refine (once_any _ _ _ c4 6 (by omega) (by omega)).mono ?_
      rintro e w8 ⟨b8, rfl, c8, g8⟩
      have b08 := b04.grown g8 b04.size (fun k hk => by injection hk with hk; omega)
      have o8 := o4.kept g8 (fun k hk => by injection hk with hk; omega)
      cases b8
      · go_wp2
        go_ret
        exact ⟨A3, n3, d3, _, rfl, o8.up (by omega), by omega, b08⟩
      · go_wp2_with fail
        refine (drawAny_any _ _ _ c8).mono ?_
        rintro e w9 ⟨A9, n9, c9, zs, rfl, o9, hn9, _, g9⟩
        go_wp2
        go_ret
        exact ⟨A9, n9, c9, zs, rfl, o9.up b08.size, hn9, b08.grown g9 b08.size (fun k hk => by injection hk with hk; omega)⟩
    · cases b4
      all_goals
        go_wp2_with fail
        refine (once_any _ _ _ c4 6 (by omega) (by omega)).mono ?_
        rintro e w8 ⟨b8, rfl, c8, g8⟩
        have b08 := b04.grown g8 b04.size (fun k hk => by injection hk with hk; omega)
        have o8 := o4.kept g8 (fun k hk => by injection hk with hk; omega)
        cases b8
        · go_wp2
          go_ret
          exact ⟨A3, 0, d3, _, rfl, o8.up (by omega), by omega, b08⟩
        · go_wp2_with fail
          refine (drawAny_any _ _ _ c8).mono ?_
          rintro e w9 ⟨A9, n9, c9, zs, rfl, o9, hn9, _, g9⟩
          go_wp2
          go_ret
          exact ⟨A9, n9, c9, zs, rfl, o9.up b08.size, hn9, b08.grown g9 b08.size (fun k hk => by injection hk with hk; omega)⟩

end Go.Proofs.Ytooahggehgkcdaa

/-
  The law FnRowsBack answers true at every slice of bytes, and writes nothing that was there.
-/
import Derived.Test.YtooahggehgkcdaaSumMath
import Derived.Test.YtooahggehgkcdaaDraw2
import Derived.Test.YtooahggehgkcdaaDice
import Derived.Test.YtooahggehgkcdaaLike
import Derived.Deep.RegionWith
import Derived.Deep.DeepCutAuto
namespace Go.Proofs.Ytooahggehgkcdaa
open Go.RowKit

theorem big_any (A : Option Addr) (n c : Nat) (w : World) :
    Calls Try.prog 12 #[.slice A n c] w fun e w' => e = .returned (.bool (decide (4096 < n))) ∧ w = w' := by
  go_enter Try.func12, Try.ntmps12
  go_wp2
  go_ret
  exact ⟨ret_bool (by simp; omega), rfl⟩

theorem withSum_short {xs : List Int} (h : (withSum xs).length = 0) : rowOk xs = false ∨ 48 ≤ xs.length := by
  cases hr : rowOk xs
  · exact .inl rfl
  · right
    rcases Nat.lt_or_ge xs.length 48 with hlt | hge
    · rw [withSum_yes hr hlt] at h; simp at h
    · exact hge

/-- What stands behind 'bent[i] = ..': the one number is another one, nothing else is. -/
def Bent (w0 : World) (base B p : Nat) (A : Option Addr) (n c : Nat) (ss : List Int) (i : Nat) (P : Int → Prop) (wx : World) : Prop :=
  ∃ y, P y ∧ Own wx base A n c (ss.set i y) ∧ LCur wx B p ∧ Below B w0 wx

theorem BRow.up_ {w : World} {B B' : Nat} {A : Option Addr} {n : Nat} (h : BRow w B A n) (hB : B ≤ B') : BRow w B' A n := by
  intro hn
  obtain ⟨b, off, rfl, hlt, hc⟩ := h hn
  exact ⟨b, off, rfl, by omega, hc⟩

theorem row_at {g n c : Nat} (k : Nat) (h : (Value.slice (some ⟨g, 0, none⟩) n c).ownBlock = some k) : k = g := by
  simp [Value.ownBlock] at h
  exact h.symm

theorem LCur.drew_ {w : World} {B p : Nat} (h : LCur w B p) : LCur w.drew B p := h
theorem Own.drew_ {w : World} {base : Nat} {A : Option Addr} {n c : Nat} {xs : List Int} (h : Own w base A n c xs) : Own w.drew base A n c xs := h
theorem below_of_drew {B : Nat} {a w : World} (h : Below B a w) : Below B a w.drew := h.drew
theorem own_far {w w' : World} {base p : Nat} {A : Option Addr} {n c : Nat} {xs : List Int} (h : Own w base A n c xs) (g : w.grownBy w' (some p)) (hp : p < base) : Own w' base A n c xs :=
  h.kept g (fun k hk => by injection hk with hk; omega)
theorem cell_far {w w' : World} {p : Nat} {a : Addr} {u : Value} (h : w.cell? a = some u) (g : w.grownBy w' (some p)) (hne : a.block ≠ p) : w'.cell? a = some u :=
  g.cell h (fun e => by injection e with e; exact hne e)

theorem bent_up {x d : Int} (x0 : 0 ≤ x) (x1 : x ≤ 1000000000) (d0 : 0 ≤ d) (d1 : d < 999999) :
    x + 1 ≤ IntKind.i64.wrap (IntKind.i64.wrap (x + 1) + d) ∧ IntKind.i64.wrap (IntKind.i64.wrap (x + 1) + d) ≤ x + 999999 := by
  rw [IntWalk.i64_in (x + 1) (by omega), IntWalk.i64_in (x + 1 + d) (by omega)]
  omega
theorem bent_down {x d : Int} (x0 : 0 ≤ x) (x1 : x ≤ 1000000000) (d0 : 0 ≤ d) (d1 : d < 999999) :
    x - 999999 ≤ IntKind.i64.wrap (IntKind.i64.wrap (x - 1) - d) ∧ IntKind.i64.wrap (IntKind.i64.wrap (x - 1) - d) ≤ x - 1 := by
  rw [IntWalk.i64_in (x - 1) (by omega), IntWalk.i64_in (x - 1 - d) (by omega)]
  omega

theorem own_set {w : World} {base g n c : Nat} {xs : List Int} (o : Own w base (some ⟨g, 0, none⟩) n c xs) (j : Nat) (y : Int) : Own (w.setCell ⟨g, j, none⟩ (.int .i64 y)) base (some ⟨g, 0, none⟩) n c (xs.set j y) := by
  have h := (World.ownsRow.stored o j (.int .i64 y)).1
  have e : (ivals xs).set j (.int .i64 y) = ivals (xs.set j y) := by simp [ivals, List.map_set]
  rw [e] at h
  exact h

theorem own_set_again {w : World} {base g n c : Nat} {xs : List Int} {y : Int} {k : Nat} (o : Own w base (some ⟨g, 0, none⟩) n c (xs.set k y)) (j : Nat) (z : Int) (e : j = k := by rfl) :
    Own (w.setCell ⟨g, j, none⟩ (.int .i64 z)) base (some ⟨g, 0, none⟩) n c (xs.set k z) := by
  subst e
  have h := own_set o j z
  rw [List.set_set] at h
  exact h

theorem own_cap {w : World} {base : Nat} {A : Option Addr} {n c : Nat} {xs : List Int} (o : Own w base A n c xs) : n ≤ c := by
  rcases o.2 with ⟨hv, _⟩ | ⟨g, cap, cur, hv, _, _, hnc, _⟩
  · injection hv; omega
  · injection hv; omega

set_option maxHeartbeats 3200000 in
theorem lawRowsBack (A : Option Addr) (n c : Nat) (w : World) (h : BRow w w.heap.size A n) (hm : n ≤ maxLen) :
    Calls Try.prog 3 #[.slice A n c] w fun e w' => e = .returned (.bool true) ∧ Below w.heap.size w w' := by
  unfold maxLen at hm
  by_cases hn : 4096 < n
  · clear h
    go_enter Try.func3, Try.ntmps3
    go_wp2_with fail
    refine (big_any A n c _).mono ?_
    rintro e w' ⟨rfl, rfl⟩
    rw [decide_eq_true hn]
    go_wp2
    go_ret
    exact ⟨rfl, Below.refl _ _⟩
  go_enter Try.func3, Try.ntmps3
  go_wp2_with fail
  refine (big_any A n c _).mono ?_
  rintro e w' ⟨rfl, rfl⟩
  rw [decide_eq_false hn]
  go_wp2_with fail
  refine (drawWith_any A n c _ h (by omega)).mono ?_
  rintro e w1 ⟨A1, n1, c1, xs, rfl, o1, hn1, b1⟩
  have z1 := b1.size
  have hl1 := Lib.hid o1.len
  go_wp2_with fail
  refine (iWith_any _ n1 c1 xs _ o1.irow (by omega)).mono ?_
  rintro e w2 ⟨A2, n2, c2, rfl, o2, b12⟩
  have hl2 := Lib.hid o2.len
  have b2 := b1.trans (b12.mono z1)
  by_cases h0 : n2 = 0
  · subst h0
    have r1 := o1.irow.below b12
    have hsh := withSum_short o2.len
    cases hr : rowOk xs
    · go_wp2_with fail
      refine (sRowOk_any _ n1 c1 _ xs _ r1 (by omega)).mono ?_
      rintro e w2' ⟨rfl, rfl⟩
      rw [hr]
      go_wp2
      go_ret
      exact ⟨rfl, b2⟩
    · have h48 : n1 = 48 := by
        have e := o1.len
        have := rowOk_len hr
        rcases hsh with h | h
        · rw [hr] at h; cases h
        · omega
      subst h48
      have HR := Lib.hid hr
      clear hr hsh
      go_wp2_with fail
      refine (sRowOk_any _ 48 c1 _ xs _ r1 (by omega)).mono ?_
      rintro e w2' ⟨rfl, rfl⟩
      rw [HR.out]
      go_wp2
      go_ret
      exact ⟨rfl, b2⟩
  have hr : rowOk xs = true := by
    cases hr : rowOk xs
    · have := hl2.out
      rw [withSum_no hr] at this
      simp at this
      omega
    · rfl
  have hlt : xs.length < 48 := by
    rcases Nat.lt_or_ge xs.length 48 with hlt | hge
    · exact hlt
    · have := hl2.out
      rw [withSum_long hge] at this
      simp at this
      omega
  have n48 : n2 ≤ 48 := by
    have := hl2.out
    rw [withSum_yes hr hlt] at this
    simp at this
    omega
  have hc2 : n2 ≤ c2 := by
    rcases o2.2 with ⟨hv, _⟩ | ⟨g, cap, cur, hv, _, _, hnc, _⟩
    · injection hv; omega
    · injection hv; omega
  have HU := Lib.hid (uns_with hr hlt)
  have HB := Lib.hid (fun (i : Nat) (hi : i < (withSum xs).length) (y : Int) => uns_bent (xs := xs) hr hlt (i := i) hi (y := y))
  have HN := Lib.hid (fun k => rowOk_num (rowOk_snoc hr hlt (sumOf_bd hr).1 (sumOf_bd hr).2) k)
  have HY := Lib.hid (withSum_yes hr hlt)
  clear hr hlt
  have hne0 : ((n2 : Int) == 0) = false := by simp; omega
  go_wp2_with fail
  refine (iUns_any _ n2 c2 (withSum xs) _ o2.irow (by omega) hc2).mono ?_
  rintro e w3 ⟨A3, n3, c3, rfl, o3, b23⟩
  rw [HU.out] at o3
  rw [HU.out]
  have hn31 : n3 = n1 := by rw [← o3.len, ← hl1.out]
  subst hn31
  have b3 := b2.trans (b23.mono b2.size)
  go_wp2_with fail
  refine (roll_any A n c _ ((h.below b3).up_ b3.size) (by omega) 505).mono ?_
  rintro e w4 ⟨rfl, l4, b34⟩
  have b4 := b3.trans (b34.mono b3.size)
  have lt4 := l4.lt
  go_wp2_with fail
  refine (lbelow_any _ _ _ l4 (n2 : Int) (by omega)).mono ?_
  rintro e w5 ⟨i, ⟨i0, i1⟩, rfl, l5, g5⟩
  obtain ⟨k, rfl⟩ := Int.eq_ofNat_of_zero_le i0
  have hk : k < n2 := by omega
  have b35 := b34.grown g5 b34.size (fun k hk => by injection hk with hk; omega)
  have b5 := b4.grown g5 b4.size (fun k hk => by injection hk with hk; have := b3.size; omega)
  have z35 := Nat.le_trans b34.size g5.size
  have z5 : w3.heap.size < w5.heap.size := l5.lt
  have s2 := (o2.below b23).irow.below b35
  have o5 := own_empty w5
  have b56 : Below w5.heap.size w5 (w5.alloc (.cells #[] 2)) := (Below.refl _ _).alloc (Nat.le_refl _) _
  have s6 := s2.below (b56.mono z35)
  have l6 := l5.below b56
  obtain ⟨ss, hss⟩ : ∃ ss, ss = withSum xs := ⟨_, rfl⟩
  rw [← hss] at s6 s2 o2
  have HSS := Lib.hid hss
  have hxb : 0 ≤ ss.getD k 0 ∧ ss.getD k 0 ≤ 1000000000 := by rw [HSS.out, HY.out]; exact HN.out k
  clear hss
  go_upto_region 11 with (first
    | (at_builtin
       refine wpList_append_ints rfl (.tmp 40) (.tmp 41) rfl rfl o5 rfl s6 b56.size (by omega) ?_
       intro A7 c7 w7 o7 g7 e7))
  rw [Nat.zero_add, List.nil_append] at o7
  obtain ⟨g, rfl, hg7, hg7'⟩ := o7.at_ (by omega)
  have l7 := l6.kept g7 (fun k hk => by have := row_at k hk; omega)
  have b37 : Below w3.heap.size w3 w7 := (b35.trans (b56.mono z35)).grown g7 (by have := b56.size; omega) (fun k hk => by have := row_at k hk; omega)
  have hx := o7.cell (j := k) hk
  have hfx : w7.frozen? ⟨g, k, none⟩ = false := World.ownsRow.frozenAt o7 k
  obtain ⟨x, hxe⟩ : ∃ x, x = ss.getD k 0 := ⟨_, rfl⟩
  rw [← hxe] at hx hxb
  have HX := Lib.hid hxe
  obtain ⟨x0, x1⟩ := hxb
  have hne : g ≠ w3.heap.size := by omega
  clear hxe g7 e7 o5 s6
  go_cut [43] (fun _ wx => Bent w3 w5.heap.size w3.heap.size w3.heap.size (some ⟨g, 0, none⟩) n2 c7 ss k (fun y => x + 1 ≤ y ∧ y ≤ x + 999999) wx)
  case first =>
    have i0' : (0 : Int) ≤ (k : Int) := by omega
    have i1' : (k : Int) < (n2 : Int) := by omega
    have O7 := Lib.hid o7
    have L7 := Lib.hid l7
    have B37 := Lib.hid b37
    clear o7 l7 b37 l4 l5 l6 b34 b35 b5 b4 b3 b2 b1 b12 b23 o1 o2 o3 g5 b56 h HB HU HN
    go_region_with (first
      | (go_at_call 18
         refine (lbelow_any w3.heap.size w3.heap.size _ ?_ 999999 (by omega)).mono ?_
         exact L7.out.drew_
         rintro e w8 ⟨d, ⟨d0, d1⟩, rfl, l8, g8⟩
         have o8 := Lib.hid (own_far O7.out.drew_ g8 (by omega))
         have hx8 : w8.cell? ⟨g, k, none⟩ = some (.int .i64 x) := cell_far (w := w7.drew) hx g8 hne
         have hf8 : w8.frozen? ⟨g, k, none⟩ = false := World.ownsRow.frozenAt o8.out k
         have l8' := Lib.hid l8
         have g8' := Lib.hid g8
         clear l8 g8))
    all_goals (go_wp2_with fail; go_meet)
    all_goals exact ⟨_, bent_up x0 x1 d0 d1, own_set o8.out k _, l8'.out.kept (grown_setCell _ _ _ _) (fun j hj => by injection hj with hj; omega), ((below_of_drew B37.out).grown g8'.out (by simp; omega) (fun j hj => by injection hj with hj; omega)).setCell (p := ⟨g, k, none⟩) (by show w3.heap.size ≤ g; omega) _⟩
  case rest =>
    obtain ⟨y, ⟨y0, y1⟩, o8, l8, b38⟩ := hcut
    have hy8 := o8.cell (j := k) hk
    have hl7 := o7.len
    rw [show (ss.set k y).getD k 0 = y by simp [List.getD, hl7, hk]] at hy8
    have i0' : (0 : Int) ≤ (k : Int) := by omega
    have i1' : (k : Int) < (n2 : Int) := by omega
    have s8 := ((o2.below b23).irow.below b38)
    have r3 := (o3.irow.below b38)
    have r1 := ((o1.irow.below b12).below (b23.mono b12.size)).below (b38.mono (Nat.le_trans b12.size b23.size))
    have b8 := b3.trans (b38.mono b3.size)
    have hcc : n2 ≤ c7 := own_cap o7
    have hl8 := Lib.hid hl7
    have R1 := Lib.hid r1
    have b3' := Lib.hid b3
    have R3' := Lib.hid o3.irow
    have R1' := Lib.hid ((o1.irow.below b12).below (b23.mono b12.size))
    have R3 := Lib.hid r3
    have S8 := Lib.hid s8
    have O8 := Lib.hid o8
    have L8 := Lib.hid l8
    have B38 := Lib.hid b38
    have B8 := Lib.hid b8
    have z8 := b38.size
    have z13 := Nat.le_trans b12.size b23.size
    have hpz := l8.lt
    clear o7 l7 b37 l4 l5 l6 b34 b35 b5 b4 b3 b2 b1 b12 b23 o1 o2 o3 g5 b56 h HU HN r1 r3 s8 o8 l8 b38 b8 hl7 hx hfx
    by_cases hyb : 1000000000 < y
    · obtain ⟨b, off, rfl, hb3, hsc⟩ := S8.out.2 (by omega)
      have hsk := hsc k hk
      rw [← HX.out] at hsk
      have hfy : wc.frozen? ⟨g, k, none⟩ = false := World.ownsRow.frozenAt O8.out k
      have hbg : b ≠ g := by omega
      clear hsc
      go_upto_region 13 with fail
      go_cut [59] (fun _ wx => Bent w3 w5.heap.size w3.heap.size w3.heap.size (some ⟨g, 0, none⟩) n2 c7 ss k (fun y => x - 999999 ≤ y ∧ y ≤ x - 1) wx)
      case first =>
        go_region_with (first
          | (go_at_call 18
             refine (lbelow_any w3.heap.size w3.heap.size _ ?_ 999999 (by omega)).mono ?_
             exact L8.out.drew_
             rintro e w8 ⟨d, ⟨d0, d1⟩, rfl, l8, g8⟩
             have o8 := Lib.hid (own_far O8.out.drew_ g8 (by omega))
             have hx8 : w8.cell? ⟨g, k, none⟩ = some (.int .i64 y) := cell_far (w := wc.drew) hy8 g8 hne
             have hs8 : w8.cell? ⟨b, off + k, none⟩ = some (.int .i64 x) := cell_far (w := wc.drew) hsk g8 (by show b ≠ _; omega)
             have hf8 : w8.frozen? ⟨g, k, none⟩ = false := World.ownsRow.frozenAt o8.out k
             have l8' := Lib.hid l8
             have g8' := Lib.hid g8
             clear l8 g8))
        all_goals (go_wp2_with fail; go_meet)
        all_goals exact ⟨_, bent_down x0 x1 d0 d1, own_set_again o8.out k _, l8'.out.kept (grown_setCell _ _ _ _) (fun j hj => by injection hj with hj; omega), ((below_of_drew B38.out).grown g8'.out (by simp; omega) (fun j hj => by injection hj with hj; omega)).setCell (p := ⟨g, k, none⟩) (by show w3.heap.size ≤ g; omega) _⟩
      case rest =>
        obtain ⟨y', ⟨y0', y1'⟩, o8', l8', b38'⟩ := hcut
        have HW := Lib.hid (HB.out k (by rw [← HSS.out]; have := hl8.out; omega) y' (by rw [← HSS.out, ← HX.out]; omega) (by rw [← HSS.out, ← HX.out]; omega) (by rw [← HSS.out, ← HX.out]; omega))
        have b8' := b3'.out.trans (b38'.mono b3'.out.size)
        have r1' := R1'.out.below (b38'.mono z13)
        have r3' := R3'.out.below b38'
        have z8' := b38'.size
        go_wp2_with fail
        refine (iUns_any _ n2 c7 (ss.set k y') _ o8'.irow (by omega) hcc).mono ?_
        rintro e w9 ⟨A9, n9, c9, rfl, o9, b9⟩
        rw [show (unsummed (ss.set k y')).2 = false by rw [HSS.out]; exact HW.out]
        go_wp2_with fail
        refine (like_yes _ _ n3 _ _ _ _ xs _ (r3'.below (b9.mono (by omega))) (r1'.below (b9.mono (by omega))) (by omega)).mono ?_
        rintro e w10 ⟨rfl, d10⟩
        go_wp2
        go_ret
        exact ⟨rfl, (b8'.trans (b9.mono b8'.size)).trans (d10.below _)⟩
    · have HW := Lib.hid (HB.out k (by rw [← HSS.out]; have := hl8.out; omega) y (by rw [← HSS.out, ← HX.out]; omega) (by rw [← HSS.out, ← HX.out]; omega) (by rw [← HSS.out, ← HX.out]; omega))
      go_wp2_with fail
      refine (iUns_any _ n2 c7 (ss.set k y) _ O8.out.irow (by omega) hcc).mono ?_
      rintro e w9 ⟨A9, n9, c9, rfl, o9, b9⟩
      rw [show (unsummed (ss.set k y)).2 = false by rw [HSS.out]; exact HW.out]
      go_wp2_with fail
      refine (like_yes _ _ n3 _ _ _ _ xs _ (R3.out.below (b9.mono (by omega))) (R1.out.below (b9.mono (by omega))) (by omega)).mono ?_
      rintro e w10 ⟨rfl, d10⟩
      go_wp2
      go_ret
      exact ⟨rfl, (B8.out.trans (b9.mono B8.out.size)).trans (d10.below _)⟩

end Go.Proofs.Ytooahggehgkcdaa
